package finish_test

import (
	"testing"

	"dyehouse/api"
	"dyehouse/finish"
)

// wantLight is how much is left at (x, y).
func wantLight(v api.Vignette, x, y int) float32 {
	dx, dy := sub(float32(x), v.X), sub(float32(y), v.Y)
	r := root(add(mul(dx, dx), mul(dy, dy)))
	t := step(div(sub(r, v.Inner), sub(v.Outer, v.Inner)))
	switch t {
	case 0:
		return 1
	case 1:
		return v.Dark
	}
	return add(1, mul(sub(v.Dark, 1), t))
}

// checkVignette tells of a frame that is not darkened as it should be.
func checkVignette(t *testing.T, f api.Frame, v api.Vignette) {
	t.Helper()
	got, e := finish.Vignette(f, v)
	checkFrame(t, got, e, f.Region, pixelsOf(f.Region, func(x, y int) api.Pixel {
		light := wantLight(v, x, y)
		return colouredBy(pixelAt(f, x, y), func(_ int, c float32) float32 { return mul(c, light) })
	}), "Vignette", v, f.Region)
}

func TestP139Vignette(t *testing.T) {
	m := mixer{}
	for range 1000 {
		f := frameOf(m.region(), m.wild)
		v := api.Vignette{X: m.between(-30, 30), Y: m.between(-30, 30), Inner: m.between(-5, 20), Dark: m.share()}
		if m.below(2) == 0 {
			v.X, v.Y = v.X+float32(f.X), v.Y+float32(f.Y)
		}
		v.Outer = v.Inner + m.between(0.5, 30)
		switch m.below(8) {
		case 0:
			v.Dark = []float32{0, 1, minusZero()}[m.below(3)]
		case 1:
			v.Inner, v.Outer = -greatest, greatest
		case 2:
			v.X, v.Y = greatest, m.plain()
		case 3:
			v.Inner, v.Outer = 3, above(3)
		}
		checkVignette(t, f, v)
	}
	checkVignette(t, frameOf(api.Region{X: -40, Y: 7, W: 128, H: 128}, m.share), api.Vignette{X: 20.5, Y: 60.25, Inner: 10, Outer: 80, Dark: 0.125})
}

// With whole distances, and from 0 to 4, what is left is known.
func TestP139VignetteOfSome(t *testing.T) {
	r := api.Region{X: -2, Y: 3, W: 7, H: 1}
	light := []float32{0, 1 - 0.84375, 0.5, 0.84375, 1, 0.84375, 0.5}
	for _, c := range []struct {
		vignette api.Vignette
		dark     float32
	}{
		{api.Vignette{X: 2, Y: 3, Outer: 4}, 0}, {api.Vignette{X: 2, Y: 3, Outer: 4, Dark: 0.5}, 0.5}, {api.Vignette{X: 2, Y: 3, Outer: 4, Dark: 1}, 1},
	} {
		f := frameOf(r, func() float32 { return 8 })
		got, e := finish.Vignette(f, c.vignette)
		var want []float32
		for _, v := range light {
			l := 8 * (c.dark + (1-c.dark)*v)
			want = append(want, l, l, l, 8)
		}
		checkFrame(t, got, e, r, want, c)
	}
	// Both coordinates count: (3, 4) is at 5, just as (5, 0) is.
	for _, x := range []int{3, 5, -3, -5, 4, -4} {
		y := map[int]int{3: 4, -3: 4, 5: 0, -5: 0, 4: -3, -4: -3}[x]
		one := frameOf(api.Region{X: x, Y: y, W: 1, H: 1}, func() float32 { return 1 })
		got, e := finish.Vignette(one, api.Vignette{Inner: 4, Outer: 6})
		checkFrame(t, got, e, one.Region, []float32{0.5, 0.5, 0.5, 1}, x, y)
	}
}

// What comes of distances that are no numbers is what the operations give.
func TestP139VignetteEdges(t *testing.T) {
	inf := infinity()
	one := api.Frame{Region: api.Region{W: 1, H: 1}, V: []float32{2, inf, oddNaN(), oddNaN()}}
	for _, c := range []struct {
		vignette api.Vignette
		want     []float32
	}{
		{api.Vignette{Outer: 1, Dark: 0.5}, []float32{2, inf, nan(), nan()}},
		{api.Vignette{X: 5, Outer: 1, Dark: 0.5}, []float32{1, inf, nan(), nan()}},
		{api.Vignette{X: 5, Outer: 1}, []float32{0, nan(), nan(), nan()}},
		{api.Vignette{X: 5, Outer: 1, Dark: minusZero()}, []float32{minusZero(), nan(), nan(), nan()}},
		{api.Vignette{X: greatest, Outer: 1, Dark: 0.5}, []float32{1, inf, nan(), nan()}},
		{api.Vignette{X: greatest, Inner: -greatest, Outer: greatest, Dark: 0.5}, []float32{nan(), nan(), nan(), nan()}},
		{api.Vignette{Inner: -1, Outer: 0, Dark: 0.5}, []float32{1, inf, nan(), nan()}},
		{api.Vignette{Inner: minusZero(), Outer: least, Dark: 0.5}, []float32{2, inf, nan(), nan()}},
	} {
		got, e := finish.Vignette(one, c.vignette)
		checkFrame(t, got, e, one.Region, c.want, c)
	}
}

func TestP139VignetteErrors(t *testing.T) {
	for _, c := range badFrames() {
		for _, v := range []api.Vignette{{Outer: 1}, {X: oddNaN()}, {}, {Outer: 1, Dark: 2}} {
			got, e := finish.Vignette(c.frame, v)
			refusedFrame(t, got, e, c.error, "Vignette", c.frame.Region, v)
		}
	}
	refuse := func(v api.Vignette, want api.Errno) {
		t.Helper()
		got, e := finish.Vignette(row(1, 2), v)
		refusedFrame(t, got, e, want, "Vignette", v)
	}
	for _, n := range noNumbers() {
		for _, v := range []api.Vignette{{X: n, Outer: 1}, {Y: n, Outer: 1}, {Inner: n, Outer: 1}, {Outer: n}, {Outer: 1, Dark: n}, {X: n}, {Y: n, Dark: 2}, {Inner: 1, Dark: n}} {
			refuse(v, api.ErrForm)
		}
	}
	for _, v := range []api.Vignette{{}, {Outer: minusZero()}, {Inner: above(1), Outer: 1}, {Inner: 1, Outer: 1, Dark: -1}, {Outer: -least}, {Inner: greatest, Outer: -greatest, Dark: 5}} {
		refuse(v, api.ErrOrder)
	}
	for _, n := range []float32{-least, -1, above(1), 2, greatest, -greatest} {
		refuse(api.Vignette{Outer: least, Dark: n}, api.ErrRange)
	}
}
