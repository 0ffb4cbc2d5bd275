package finish_test

import (
	"math"
	"slices"
	"testing"

	"dyehouse/api"
	"dyehouse/finish"
)

// spare gives a list unused capacity, and tells whether anything has changed.
func spare[T any](l []T, more T, same func(a, b T) bool) ([]T, func() bool) {
	all := append(slices.Clone(l), more, more, more)
	was := slices.Clone(all)
	return all[:len(l)], func() bool { return !slices.EqualFunc(all, was, same) }
}

func sameSingle(v, w float32) bool { return math.Float32bits(v) == math.Float32bits(w) }

func sameInt(v, w int) bool { return v == w }

// checkOwn calls twice, and scribbles over the first result, with its unused
// capacity: neither what was handed in nor the second result may notice.
func checkOwn[T any](t *testing.T, name string, call func() []T, scribble T, same func(a, b T) bool, changed []func() bool) {
	t.Helper()
	first := call()
	was := slices.Clone(first)
	if len(was) == 0 {
		t.Error(name, "makes nothing")
	}
	first = first[:cap(first)]
	for i := range first {
		first[i] = scribble
	}
	if !slices.EqualFunc(call(), was, same) {
		t.Error(name, "is not the same the second time")
	}
	for i, is := range changed {
		if is() {
			t.Fatal(name, "changed argument", i)
		}
	}
}

func TestP135MemoryIsNotShared(t *testing.T) {
	m := mixer{}
	f := frameOf(api.Region{X: 1, Y: 2, W: 5, H: 4}, m.rare)
	f.V[7], f.V[9] = oddNaN(), oddNaN()
	l := m.levels(80, 8)
	changed := make([]func() bool, 2)
	f.V, changed[0] = spare(f.V, oddNaN(), sameSingle)
	l, changed[1] = spare(l, -7, sameInt)
	text, _ := finish.Pack(l, 8)
	one := func(f api.Frame, _ api.Errno) []float32 { return f.V }
	for name, call := range map[string]func() []float32{
		"Grain":    func() []float32 { return one(finish.Grain(f, api.Grain{Size: 2, Strength: 1}, 1)) },
		"Sharpen":  func() []float32 { return one(finish.Sharpen(f, 1, 0)) },
		"none":     func() []float32 { return one(finish.Sharpen(f, 0, greatest)) },
		"Toned":    func() []float32 { return one(finish.Toned(f, api.Tone{Kind: api.ToneWhite, A: 1})) },
		"Vignette": func() []float32 { return one(finish.Vignette(f, api.Vignette{Outer: 1})) },
		"Frame":    func() []float32 { return one(finish.Frame(f.Region, l, 8)) },
		"ReadPicture": func() []float32 {
			text, _ := finish.Picture(f, api.DitherOrdered, 0)
			return one(finish.ReadPicture(text))
		},
	} {
		checkOwn(t, name, call, 77, sameSingle, changed)
	}
	two := func(l []int, _ api.Errno) []int { return l }
	for name, call := range map[string]func() []int{
		"Levels":  func() []int { return two(finish.Levels(f, api.DitherHash, 1, 8)) },
		"Diffuse": func() []int { return two(finish.Diffuse(f, 3)) },
		"Unpack":  func() []int { return two(finish.Unpack(text, 80, 8)) },
	} {
		checkOwn(t, name, call, -77, sameInt, changed)
	}
}

// All that is made of pixels is Clean, also where nothing else is done.
func TestP135ResultsAreClean(t *testing.T) {
	p := api.Pixel{oddNaN(), single(0x7f800001), oddNaN(), single(0xffc00000)}
	want := api.Pixel{nan(), nan(), nan(), nan()}
	f := api.Frame{Region: api.Region{W: 1, H: 1}, V: p[:]}
	grained, _ := finish.Grained(api.Grain{Size: 1}, 0, 0, 0, p)
	compressed, _ := finish.Compress(p, 0)
	clipped, _, _ := finish.Clip(p, 0, 1)
	for _, q := range []api.Pixel{grained, compressed, clipped, finish.Expose(p, 0)} {
		checkPixel(t, q, want, "pixel")
	}
	one := func(f api.Frame, e api.Errno) []float32 { checkError(t, e, api.OK); return f.V }
	for _, l := range [][]float32{
		one(finish.Grain(f, api.Grain{Size: 1}, 0)), one(finish.Sharpen(f, 0, 0)), one(finish.Sharpen(f, 1, greatest)),
		one(finish.Toned(f, api.Tone{Kind: api.ToneShoulder, B: 1})), one(finish.Vignette(f, api.Vignette{Outer: 1, Dark: 1})),
	} {
		checkList(t, l, want[:], "frame")
	}
	v, _ := finish.Tone(api.Tone{Kind: api.ToneShoulder, B: 1}, oddNaN())
	check(t, v, nan(), "Tone")
}
