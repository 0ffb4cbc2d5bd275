package key_test

import (
	"math"
	"slices"
	"testing"

	"dyehouse/api"
	"dyehouse/key"
)

// spare gives a list unused capacity, and tells whether anything has changed.
func spare(l []float32) ([]float32, func() bool) {
	all := append(slices.Clone(l), 7, oddNaN(), 9)
	was := slices.Clone(all)
	return all[:len(l)], func() bool {
		return !slices.EqualFunc(all, was, func(v, w float32) bool { return math.Float32bits(v) == math.Float32bits(w) })
	}
}

// sparePoints does so for points.
func sparePoints(l []api.Point) ([]api.Point, func() bool) {
	all := append(slices.Clone(l), api.Point{X: 7}, api.Point{Y: 9})
	was := slices.Clone(all)
	return all[:len(l)], func() bool { return !slices.Equal(all, was) }
}

// checkOwn calls twice, and scribbles over the first result, with its unused
// capacity: neither what was handed in nor the second result may notice.
func checkOwn[T any](t *testing.T, name string, call func() []T, scribble T, same func(a, b T) bool, changed []func() bool) {
	t.Helper()
	first := call()
	was := slices.Clone(first)
	if len(was) == 0 {
		t.Error(name, "makes nothing")
	}
	first = first[:cap(first)]
	for i := range first {
		first[i] = scribble
	}
	if !slices.EqualFunc(call(), was, same) {
		t.Error(name, "is not the same the second time")
	}
	for i, is := range changed {
		if is() {
			t.Fatal(name, "changed argument", i)
		}
	}
}

func TestP105MemoryIsNotShared(t *testing.T) {
	m := mixer{}
	r := api.Region{X: 1, Y: 2, W: 5, H: 4}
	a, b := matteOf(r, m.wild), matteOf(r, m.wild)
	f, g := frameOf(r, m.share), frameOf(r, m.share)
	w := polygon(many(5)...)
	changed := make([]func() bool, 5)
	a.V, changed[0] = spare(a.V)
	b.V, changed[1] = spare(b.V)
	f.V, changed[2] = spare(f.V)
	g.V, changed[3] = spare(g.V)
	w.Points, changed[4] = sparePoints(w.Points)
	one := func(m api.Matte, _ api.Errno) []float32 { return m.V }
	for name, call := range map[string]func() []float32{
		"HueMatte":    func() []float32 { return one(key.HueMatte(hueKey(0.5, 0.25, 0.25), f)) },
		"LumaMatte":   func() []float32 { return one(key.LumaMatte(allOf(), [3]float32{1, 1, 1}, f)) },
		"NearMatte":   func() []float32 { return one(key.NearMatte(api.Pixel{}, 0, 1, f)) },
		"Invert":      func() []float32 { return one(key.Invert(a)) },
		"Meet":        func() []float32 { return one(key.Meet(api.MeetLess, a, b)) },
		"Spread":      func() []float32 { return one(key.Spread(a, 1)) },
		"Spread 0":    func() []float32 { return one(key.Spread(a, 0)) },
		"Shrink":      func() []float32 { return one(key.Shrink(a, 1)) },
		"Shrink 0":    func() []float32 { return one(key.Shrink(a, 0)) },
		"Feather":     func() []float32 { return one(key.Feather(a, 1)) },
		"Feather 0":   func() []float32 { return one(key.Feather(a, 0)) },
		"WindowMatte": func() []float32 { return one(key.WindowMatte(w, r)) },
		"Difference":  func() []float32 { d, _ := key.Difference(f, g, 1, 1); return []float32{d} },
		"Window":      func() []float32 { v, _ := key.Window(w, 1, 1); return []float32{v} },
		"Track":       func() []float32 { _, d, _ := key.Track(f, g, r, 1); return []float32{d} },
	} {
		checkOwn(t, name, call, 77, func(v, w float32) bool { return math.Float32bits(v) == math.Float32bits(w) }, changed)
	}
}

func TestP113MemoryIsNotShared(t *testing.T) {
	m := mixer{}
	w, v := polygon(many(5)...), polygon(many(6)[1:]...)
	f := frameOf(api.Region{W: 5, H: 5}, m.share)
	changed := make([]func() bool, 3)
	w.Points, changed[0] = sparePoints(w.Points)
	v.Points, changed[1] = sparePoints(v.Points)
	f.V, changed[2] = spare(f.V)
	l := keyFrames([]int{1, 4}, w, v)
	l[0].Ease = api.EaseHold
	smooth := keyFrames([]int{1, 4}, w, v)
	one := func(w api.Window, _ api.Errno) []api.Point { return w.Points }
	for name, call := range map[string]func() []api.Point{
		"ahead of all": func() []api.Point { return one(key.Between(l, 0)) },
		"at the first": func() []api.Point { return one(key.Between(l, 1)) },
		"held":         func() []api.Point { return one(key.Between(l, 2)) },
		"at the last":  func() []api.Point { return one(key.Between(l, 4)) },
		"behind all":   func() []api.Point { return one(key.Between(l, 5)) },
		"between":      func() []api.Point { return one(key.Between(smooth, 2)) },
		"Moved":        func() []api.Point { return one(key.Moved(w, 1, 2)) },
		"Moved by 0":   func() []api.Point { return one(key.Moved(w, 0, 0)) },
		"TrackAll": func() []api.Point {
			return points(key.TrackAll([]api.Frame{f, f}, api.Region{X: 1, Y: 1, W: 2, H: 2}, 1))
		},
		"Parse of Print": func() []api.Point { text, _ := key.Print(w); return one(key.Parse(text)) },
	} {
		checkOwn(t, name, call, api.Point{X: 77}, func(p, q api.Point) bool { return p == q }, changed)
	}
}

// points are a list without its error.
func points(l []api.Point, _ api.Errno) []api.Point { return l }
