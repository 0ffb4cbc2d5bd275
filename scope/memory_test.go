package scope_test

import (
	"math"
	"slices"
	"testing"

	"dyehouse/api"
	"dyehouse/scope"
)

// spare gives a list unused capacity, and tells whether anything has changed.
func spare[T any](l []T, more T, same func(a, b T) bool) ([]T, func() bool) {
	all := append(slices.Clone(l), more, more, more)
	was := slices.Clone(all)
	return all[:len(l)], func() bool { return !slices.EqualFunc(all, was, same) }
}

func sameSingle(v, w float32) bool { return math.Float32bits(v) == math.Float32bits(w) }

func sameInt(v, w int) bool { return v == w }

func sameBand(v, w api.Band) bool {
	return sameSingle(v.From, w.From) && slices.EqualFunc(v.Colour[:], w.Colour[:], sameSingle)
}

// checkOwn calls twice, and scribbles over the first result, with its unused
// capacity: neither what was handed in nor the second result may notice.
func checkOwn[T any](t *testing.T, name string, call func() []T, scribble T, same func(a, b T) bool, changed []func() bool) {
	t.Helper()
	first := call()
	was := slices.Clone(first)
	if len(was) == 0 {
		t.Error(name, "makes nothing")
	}
	first = first[:cap(first)]
	for i := range first {
		first[i] = scribble
	}
	if !slices.EqualFunc(call(), was, same) {
		t.Error(name, "is not the same the second time")
	}
	for i, is := range changed {
		if is() {
			t.Fatal(name, "changed argument", i)
		}
	}
}

func TestP155MemoryIsNotShared(t *testing.T) {
	m := mixer{}
	a, b := m.pair()
	a.V[0] = oddNaN()
	l, bins := m.bands(), api.Bins{High: 1, Many: 8}
	drawn := []int{1, 5, 2, 0}
	changed := make([]func() bool, 4)
	a.V, changed[0] = spare(a.V, oddNaN(), sameSingle)
	b.V, changed[1] = spare(b.V, oddNaN(), sameSingle)
	l, changed[2] = spare(l, api.Band{From: oddNaN()}, sameBand)
	drawn, changed[3] = spare(drawn, -7, sameInt)
	one := func(f api.Frame, _ api.Errno) []float32 { return f.V }
	for name, call := range map[string]func() []float32{
		"False": func() []float32 { return one(scope.False(a, usual(), l)) },
		"Zebra": func() []float32 { return one(scope.Zebra(a, usual(), 0.5, 2)) },
		"none":  func() []float32 { return one(scope.Zebra(a, usual(), greatest, 2)) },
	} {
		checkOwn(t, name, call, 77, sameSingle, changed)
	}
	for name, call := range map[string]func() []int{
		"Histogram": func() []int { c, _ := scope.Histogram(a, 0, bins); return c.Bins },
		"Wave":      func() []int { l, _ := scope.Wave(a, 4, bins); return l[0] },
		"Vector":    func() []int { l, _ := scope.Vector(a, 8); return l[7] },
		"Steps":     func() []int { l, _ := scope.Steps(a, b); return l },
	} {
		checkOwn(t, name, call, -77, sameInt, changed)
	}
	// Those that have no lists for their results change nothing, either.
	for channel := range 5 {
		scope.Extent(a, channel)
		scope.Rank(a, channel, 70)
	}
	scope.Odd(a)
	scope.Peak(a, b)
	scope.Mean(a, b)
	scope.Noise(a, b, 1)
	scope.Changed(a, b)
	scope.Match(a, b)
	scope.Sketch(api.Counts{Bins: drawn}, 5)
	for i, is := range changed {
		if is() {
			t.Error("argument", i, "changed")
		}
	}
}

// The lists of one result share no memory, not even beyond their ends.
func TestP156ListsAreApart(t *testing.T) {
	for name, call := range map[string]func() ([][]int, api.Errno){
		"Wave":   func() ([][]int, api.Errno) { return scope.Wave(row(0, 1, 2, 3), 0, api.Bins{High: 4, Many: 4}) },
		"Vector": func() ([][]int, api.Errno) { return scope.Vector(row(0, 1, 2, 3), 4) },
	} {
		want, e := call()
		checkError(t, e, api.OK, name)
		for i := range want {
			got, _ := call()
			all := got[i][:cap(got[i])]
			for n := range all {
				all[n] = -77
			}
			for n, l := range got {
				if n != i && !slices.Equal(l, want[n]) {
					t.Error(name, "has lists that share memory:", i, n)
				}
			}
		}
	}
}

// All singles that are made are Clean.
func TestP157ResultsAreClean(t *testing.T) {
	p := api.Pixel{oddNaN(), single(0x7f800001), oddNaN(), single(0xffc00000)}
	want := api.Pixel{nan(), nan(), nan(), nan()}
	f := api.Frame{Region: api.Region{W: 1, H: 1}, V: p[:]}
	zero := frameOf(f.Region, func() float32 { return 0 })
	got, e := scope.False(f, usual(), []api.Band{{Colour: p}})
	checkFrame(t, got, e, f.Region, want[:], "False")
	got, e = scope.False(zero, usual(), []api.Band{{Colour: p}})
	checkFrame(t, got, e, f.Region, want[:], "False")
	got, e = scope.Zebra(f, usual(), 0, 1)
	checkFrame(t, got, e, f.Region, want[:], "Zebra")
	for channel := range 5 {
		v, _ := scope.Rank(f, channel, 0)
		check(t, v, nan(), "Rank", channel)
	}
	peak, _, _ := scope.Peak(f, zero)
	mean, _ := scope.Mean(f, zero)
	noise, _ := scope.Noise(zero, f, 1)
	factors, offsets, _ := scope.Match(f, f)
	checkList(t, []float32{peak, mean, noise}, want[:3], "measures")
	checkList(t, factors[:], want[:3], "factors")
	checkList(t, offsets[:], want[:3], "offsets")
}
