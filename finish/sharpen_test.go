package finish_test

import (
	"testing"

	"dyehouse/api"
	"dyehouse/finish"
)

// nearestAt is a channel of f at the nearest place that f has.
func nearestAt(f api.Frame, x, y, channel int) float32 {
	if x < f.X {
		x = f.X
	}
	if x >= f.X+f.W {
		x = f.X + f.W - 1
	}
	if y < f.Y {
		y = f.Y
	}
	if y >= f.Y+f.H {
		y = f.Y + f.H - 1
	}
	return pixelAt(f, x, y)[channel]
}

// wantSharpened is a pixel of what Sharpen returns.
func wantSharpened(f api.Frame, amount, least float32, x, y int) api.Pixel {
	return colouredBy(pixelAt(f, x, y), func(channel int, c float32) float32 {
		sum := nearestAt(f, x-1, y-1, channel)
		for _, d := range [][2]int{{0, -1}, {1, -1}, {-1, 0}, {0, 0}, {1, 0}, {-1, 1}, {0, 1}, {1, 1}} {
			sum = add(sum, nearestAt(f, x+d[0], y+d[1], channel))
		}
		d := sub(c, div(sum, 9))
		if d < least && d > -least {
			return c
		}
		return add(c, mul(d, amount))
	})
}

// checkSharpen tells of a frame that Sharpen does not sharpen as it should.
func checkSharpen(t *testing.T, f api.Frame, amount, least float32) {
	t.Helper()
	got, e := finish.Sharpen(f, amount, least)
	checkFrame(t, got, e, f.Region, pixelsOf(f.Region, func(x, y int) api.Pixel {
		return wantSharpened(f, amount, least, x, y)
	}), "Sharpen", amount, least, f.Region)
}

func TestP136Sharpen(t *testing.T) {
	m := mixer{}
	for n := range 600 {
		value := []func() float32{m.plain, m.share, m.rare, m.wild}[n%4]
		f := frameOf(m.region(), value)
		amount, least := m.between(0, 16), float32(0)
		switch m.below(4) {
		case 0:
			amount = []float32{0, minusZero(), 1, 16}[m.below(4)]
		case 1:
			least = m.between(0, 1)
		}
		checkSharpen(t, f, amount, least)
	}
	for _, r := range []api.Region{{X: -far, Y: far - 1, W: 256, H: 1}, {X: far - 1, Y: -far, W: 1, H: 256}, {X: 3, Y: -5, W: 128, H: 128}, {W: 1, H: 1}, {W: 2, H: 2}} {
		checkSharpen(t, frameOf(r, m.share), 1.5, 0.125)
	}
}

// row is a frame of one row with these values in red, and some in the others.
func row(v ...float32) api.Frame {
	f := api.Frame{Region: api.Region{X: 7, Y: -3, W: len(v), H: 1}}
	for _, red := range v {
		f.V = append(f.V, red, -1, 2, 0.5)
	}
	return f
}

// reds are the values of red.
func reds(f api.Frame) []float32 {
	var l []float32
	for i := 0; i < len(f.V); i += 4 {
		l = append(l, f.V[i])
	}
	return l
}

func TestP136SharpenOfRows(t *testing.T) {
	inf := infinity()
	for _, c := range []struct {
		values        []float32
		amount, least float32
		want          []float32
	}{
		{[]float32{5}, 16, 0, []float32{5}},
		{[]float32{0, 9, 0}, 1, 0, []float32{-3, 15, -3}},
		{[]float32{0, 9, 0}, 1, 3, []float32{-3, 15, -3}},
		{[]float32{0, 9, 0}, 1, above(3), []float32{0, 15, 0}},
		{[]float32{0, 9, 0}, 1, 6, []float32{0, 15, 0}},
		{[]float32{0, 9, 0}, 1, above(6), []float32{0, 9, 0}},
		{[]float32{0, 9, 0}, 0.5, minusZero(), []float32{-1.5, 12, -1.5}},
		{[]float32{0, -9, 0}, 16, 4, []float32{0, -105, 0}},
		{[]float32{0, 9, 0}, 0, 0, []float32{0, 9, 0}},
		{[]float32{0, 9, 0}, 16, greatest, []float32{0, 9, 0}},
		{[]float32{3, 0, 0, 0, 6}, 1, 0, []float32{4, -1, 0, -2, 8}},
		{[]float32{1, oddNaN(), 1, 1, 1}, 1, 0, []float32{nan(), nan(), nan(), 1, 1}},
		{[]float32{1, oddNaN(), 1, 1, 1}, 0, greatest, []float32{nan(), nan(), nan(), 1, 1}},
		{[]float32{1, inf, 1, 1}, 1, 0, []float32{-inf, nan(), -inf, 1}},
		{[]float32{1, inf, 1, 1}, 0, 0, []float32{nan(), nan(), nan(), 1}},
		{[]float32{1, -inf, 1, 1}, 1, greatest, []float32{inf, nan(), inf, 1}},
		// The sum of nine is beyond all numbers.
		{[]float32{greatest, greatest}, 1, 0, []float32{-inf, -inf}},
		{[]float32{minusZero()}, 1, 0, []float32{0}},
		{[]float32{minusZero()}, 1, least, []float32{minusZero()}},
	} {
		got, e := finish.Sharpen(row(c.values...), c.amount, c.least)
		checkError(t, e, api.OK, c)
		checkList(t, reds(got), c.want, c)
	}
}

func TestP136SharpenErrors(t *testing.T) {
	for _, c := range badFrames() {
		for _, v := range []float32{1, oddNaN(), -1} {
			got, e := finish.Sharpen(c.frame, v, 0)
			refusedFrame(t, got, e, c.error, "Sharpen", c.frame.Region, v)
			got, e = finish.Sharpen(c.frame, 0, v)
			refusedFrame(t, got, e, c.error, "Sharpen", c.frame.Region, v)
		}
	}
	f := row(1, 2)
	for _, v := range noNumbers() {
		for _, w := range []float32{1, -1, 17} {
			got, e := finish.Sharpen(f, v, w)
			refusedFrame(t, got, e, api.ErrForm, "Sharpen", v, w)
			got, e = finish.Sharpen(f, w, v)
			refusedFrame(t, got, e, api.ErrForm, "Sharpen", w, v)
		}
	}
	for _, v := range []float32{-least, -1, above(16), 17, greatest, -greatest} {
		got, e := finish.Sharpen(f, v, 0)
		refusedFrame(t, got, e, api.ErrRange, "Sharpen, amount", v)
	}
	for _, v := range []float32{-least, -1, -greatest} {
		got, e := finish.Sharpen(f, 1, v)
		refusedFrame(t, got, e, api.ErrRange, "Sharpen, least", v)
	}
}
