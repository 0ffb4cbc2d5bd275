package scope_test

import (
	"math"
	"testing"

	"dyehouse/api"
	"dyehouse/scope"
)

// badBand is bands with the error that they have.
type badBand struct {
	bands []api.Band
	error api.Errno
}

// badBands are bands of each error, also with those that come behind it.
func badBands() []badBand {
	l := []badBand{{nil, api.ErrEmpty}, {[]api.Band{}, api.ErrEmpty}}
	for _, n := range []int{33, 34, 100, 1000} {
		l = append(l, badBand{ladder(n), api.ErrLarge}, badBand{make([]api.Band, n), api.ErrLarge})
	}
	for _, v := range noNumbers() {
		l = append(l, badBand{[]api.Band{{From: v}}, api.ErrForm}, badBand{[]api.Band{{From: v}, {From: v}}, api.ErrForm})
		for i := range 32 {
			form, late := ladder(32), ladder(32)
			form[i].From = v
			l = append(l, badBand{form, api.ErrForm})
			if i > 1 { // an earlier one is out of order
				late[i].From, late[i-1].From = v, late[i-2].From
				l = append(l, badBand{late, api.ErrOrder})
			}
		}
	}
	for i := 1; i < 32; i++ {
		for _, v := range []float32{float32(i - 1), below(float32(i - 1)), -5, -greatest} {
			order := ladder(32)
			order[i].From = v
			l = append(l, badBand{order, api.ErrOrder})
		}
	}
	return append(l, badBand{[]api.Band{{From: minusZero()}, {From: 0}}, api.ErrOrder}, badBand{[]api.Band{{From: 0}, {From: minusZero()}}, api.ErrOrder},
		badBand{[]api.Band{{From: 1}, {From: 0}, {From: nan()}}, api.ErrOrder})
}

// ladder is n bands from 0 on, with colours that tell which they are.
func ladder(n int) []api.Band {
	l := make([]api.Band, n)
	for i := range l {
		l[i] = api.Band{From: float32(i), Colour: api.Pixel{float32(i), 100, -1, 0.5}}
	}
	return l
}

func TestP157CheckBands(t *testing.T) {
	for n := 1; n <= 32; n++ {
		checkError(t, scope.CheckBands(ladder(n)), api.OK, n)
	}
	odd := api.Pixel{nan(), infinity(), -infinity(), oddNaN()}
	checkError(t, scope.CheckBands([]api.Band{{From: -greatest, Colour: odd}, {From: -least}, {From: minusZero()}, {From: least}, {From: greatest, Colour: odd}}), api.OK)
	for i, c := range badBands() {
		checkError(t, scope.CheckBands(c.bands), c.error, i, c.bands)
	}
}

// bands returns bands in order, with colours of any kind.
func (m *mixer) bands() []api.Band {
	l := make([]api.Band, m.from(1, 32))
	from := m.between(-0.5, 0.5)
	for i := range l {
		l[i] = api.Band{From: from, Colour: pixelOf(m.wild)}
		from = above(from + m.between(0, 0.25))
	}
	return l
}

// wantFalse is what a pixel becomes.
func wantFalse(w [3]float32, l []api.Band, p api.Pixel) api.Pixel {
	v := wantLuma(w, p)
	for i := len(l) - 1; i >= 0; i-- {
		if v >= l[i].From {
			return l[i].Colour
		}
	}
	return api.Pixel{v, v, v, p[3]}
}

// weights returns weights that are numbers.
func (m *mixer) weights() [3]float32 {
	switch m.below(4) {
	case 0:
		return usual()
	case 1:
		return [3]float32{0, float32(m.below(2)), minusZero()}
	case 2:
		return [3]float32{greatest, -greatest, least}
	}
	return [3]float32{m.between(-1, 2), m.between(-1, 2), m.between(-1, 2)}
}

func TestP157False(t *testing.T) {
	m := mixer{}
	for range 2000 {
		f, w, l := m.counted(), m.weights(), m.bands()
		if m.below(2) == 0 { // a luma is just where a band begins
			p := pixelAt(f, f.X, f.Y)
			if v := wantLuma(w, p); isNumber(v) {
				l = []api.Band{{From: below(v), Colour: pixelOf(m.wild)}, {From: v, Colour: pixelOf(m.wild)}, {From: above(v), Colour: pixelOf(m.wild)}}
			}
			if scope.CheckBands(l) != api.OK {
				l = m.bands()
			}
		}
		got, e := scope.False(f, w, l)
		checkFrame(t, got, e, f.Region, pixelsOf(f.Region, func(x, y int) api.Pixel { return wantFalse(w, l, pixelAt(f, x, y)) }), "False", w, l)
	}
}

func TestP157FalseOfSome(t *testing.T) {
	inf := infinity()
	blue, red := api.Pixel{0, 0, 1, 0.25}, api.Pixel{nan(), inf, oddNaN(), oddNaN()}
	l := []api.Band{{From: 0, Colour: blue}, {From: 0.5, Colour: red}}
	for _, c := range []struct {
		p    api.Pixel
		want api.Pixel
	}{
		{api.Pixel{0, 5, 5, 1}, blue}, {api.Pixel{minusZero(), 5, 5, 1}, blue}, {api.Pixel{least, 5, 5, 1}, blue}, {api.Pixel{below(0.5), 5, 5, 1}, blue},
		{api.Pixel{0.5, 5, 5, 1}, red}, {api.Pixel{2, 5, 5, 1}, red}, {api.Pixel{inf, 5, 5, 1}, red},
		{api.Pixel{-least, 5, 5, 3}, api.Pixel{-least, -least, -least, 3}}, {api.Pixel{-2, 5, 5, oddNaN()}, api.Pixel{-2, -2, -2, nan()}},
		{api.Pixel{-inf, 5, 5, inf}, api.Pixel{-inf, -inf, -inf, inf}},
		{api.Pixel{oddNaN(), 5, 5, -1}, api.Pixel{nan(), nan(), nan(), -1}}, {api.Pixel{1, inf, 5, 0}, api.Pixel{nan(), nan(), nan(), 0}},
	} {
		f := api.Frame{Region: api.Region{X: 7, Y: -7, W: 1, H: 1}, V: c.p[:]}
		got, e := scope.False(f, [3]float32{1, 0, 0}, l)
		checkFrame(t, got, e, f.Region, c.want[:], "False", c.p)
	}
	f := frameOf(api.Region{W: 1, H: 1}, func() float32 { return 0.5 })
	for _, w := range [][3]float32{{0, 1, 0}, {0, 0, 1}, {2, -1, 0}, {minusZero(), 2, -1}} {
		got, e := scope.False(f, w, l)
		checkFrame(t, got, e, f.Region, red[:], "False", w)
	}
}

// badWeights are weights one of which is no number.
func badWeights() [][3]float32 {
	var l [][3]float32
	for _, v := range noNumbers() {
		l = append(l, [3]float32{v, 1, 1}, [3]float32{1, v, 1}, [3]float32{1, 1, v}, [3]float32{v, v, v})
	}
	return l
}

func TestP157FalseErrors(t *testing.T) {
	for _, c := range badFrames() {
		for _, w := range [][3]float32{usual(), {oddNaN()}} {
			for _, l := range [][]api.Band{ladder(3), nil, ladder(33)} {
				got, e := scope.False(c.frame, w, l)
				refusedFrame(t, got, e, c.error, "False", c.frame.Region, w)
			}
		}
	}
	for _, w := range badWeights() {
		for _, l := range [][]api.Band{ladder(3), nil, ladder(33)} {
			got, e := scope.False(row(1, 2), w, l)
			refusedFrame(t, got, e, api.ErrForm, "False", w)
		}
	}
	for _, c := range badBands() {
		got, e := scope.False(row(1, 2), usual(), c.bands)
		refusedFrame(t, got, e, c.error, "False", c.bands)
	}
}

// wantZebra is what a pixel becomes.
func wantZebra(w [3]float32, level float32, width, x, y int, p api.Pixel) api.Pixel {
	if v := wantLuma(w, p); v != v || v < level {
		return p
	}
	stripe := int(math.Floor(float64(x+y) / float64(width)))
	if stripe&1 == 0 {
		return api.Pixel{1, 1, 1, p[3]}
	}
	return api.Pixel{0, 0, 0, p[3]}
}

func TestP157Zebra(t *testing.T) {
	m := mixer{}
	for n := range 2000 {
		f, w, level, width := m.counted(), m.weights(), m.between(-0.5, 1), n%64+1
		if v := wantLuma(w, pixelAt(f, f.X, f.Y)); isNumber(v) && m.below(2) == 0 {
			level = []float32{v, above(v), below(v)}[m.below(3)]
		}
		if !isNumber(level) {
			level = greatest
		}
		got, e := scope.Zebra(f, w, level, width)
		checkFrame(t, got, e, f.Region, pixelsOf(f.Region, func(x, y int) api.Pixel {
			return wantZebra(w, level, width, x, y, pixelAt(f, x, y))
		}), "Zebra", w, level, width)
	}
}

func TestP157ZebraOfSome(t *testing.T) {
	f := frameOf(api.Region{X: -5, Y: 1, W: 9, H: 1}, func() float32 { return 0.5 })
	for width, want := range map[int][]float32{
		1:  {1, 0, 1, 0, 1, 0, 1, 0, 1},
		2:  {1, 1, 0, 0, 1, 1, 0, 0, 1},
		3:  {1, 0, 0, 0, 1, 1, 1, 0, 0},
		4:  {0, 0, 0, 0, 1, 1, 1, 1, 0},
		64: {0, 0, 0, 0, 1, 1, 1, 1, 1},
	} {
		got, e := scope.Zebra(f, [3]float32{1, 0, 0}, 0.5, width)
		checkFrame(t, got, e, f.Region, pixelsOf(f.Region, func(x, _ int) api.Pixel {
			v := want[x+5]
			return api.Pixel{v, v, v, 0.5}
		}), "width", width)
	}
	// Those below the level stay, and where there is no luma; alpha always does.
	inf := infinity()
	for _, c := range []struct {
		p, want api.Pixel
		level   float32
	}{
		{api.Pixel{0, 2, 3, 4}, api.Pixel{1, 1, 1, 4}, 0}, {api.Pixel{minusZero(), 2, 3, oddNaN()}, api.Pixel{1, 1, 1, nan()}, 0},
		{api.Pixel{0, 2, 3, 4}, api.Pixel{1, 1, 1, 4}, minusZero()}, {api.Pixel{-least, 2, oddNaN(), 4}, api.Pixel{-least, 2, nan(), 4}, -1},
		{api.Pixel{-least, 2, 3, inf}, api.Pixel{-least, 2, 3, inf}, 0}, {api.Pixel{inf, 2, 3, 4}, api.Pixel{1, 1, 1, 4}, greatest},
		{api.Pixel{oddNaN(), 2, 3, oddNaN()}, api.Pixel{nan(), 2, 3, nan()}, -greatest}, {api.Pixel{-inf, 2, 3, 4}, api.Pixel{-inf, 2, 3, 4}, -greatest},
	} {
		one := api.Frame{Region: api.Region{X: 3, Y: -3, W: 1, H: 1}, V: c.p[:]}
		got, e := scope.Zebra(one, [3]float32{1, 0, 0}, c.level, 1)
		checkFrame(t, got, e, one.Region, c.want[:], "Zebra", c)
	}
}

func TestP157ZebraErrors(t *testing.T) {
	widths := append(badInts(), 0, -1, 65, 128)
	levels := append(noNumbers(), 0.5)
	for _, c := range badFrames() {
		for _, w := range [][3]float32{usual(), {oddNaN()}} {
			for _, level := range levels {
				got, e := scope.Zebra(c.frame, w, level, 0)
				refusedFrame(t, got, e, c.error, "Zebra", c.frame.Region, w, level)
			}
		}
	}
	for _, n := range append(widths, 1) {
		for _, w := range badWeights() {
			for _, level := range levels {
				got, e := scope.Zebra(row(1, 2), w, level, n)
				refusedFrame(t, got, e, api.ErrForm, "Zebra", w, level, n)
			}
		}
		for _, level := range noNumbers() {
			got, e := scope.Zebra(row(1, 2), usual(), level, n)
			refusedFrame(t, got, e, api.ErrForm, "Zebra", level, n)
		}
	}
	for _, n := range widths {
		got, e := scope.Zebra(row(1, 2), usual(), 0.5, n)
		refusedFrame(t, got, e, api.ErrRange, "Zebra", n)
	}
}
