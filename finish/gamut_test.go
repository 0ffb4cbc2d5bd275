package finish_test

import (
	"math"
	"testing"

	"dyehouse/api"
	"dyehouse/finish"
)

// wantCompressed is what Compress returns, for from without errors.
func wantCompressed(p api.Pixel, from float32) api.Pixel {
	a := p[0]
	for _, v := range p[1:3] {
		if v > a {
			a = v
		}
	}
	if !(a > 0) || !isNumber(p[0]) || !isNumber(p[1]) || !isNumber(p[2]) {
		return p
	}
	return colouredBy(p, func(_ int, c float32) float32 {
		d := div(sub(a, c), a)
		if !(d > from) {
			return c
		}
		x := div(sub(d, from), sub(1, from))
		y := div(x, add(1, x))
		if x > greatest {
			y = 1
		}
		return sub(a, mul(add(from, mul(sub(1, from), y)), a))
	})
}

func TestP138CompressOfSome(t *testing.T) {
	inf, zero := infinity(), minusZero()
	for _, c := range []struct {
		pixel api.Pixel
		from  float32
		want  api.Pixel
	}{
		{api.Pixel{1, 0, 0.5, 7}, 0.5, api.Pixel{1, 0.25, 0.5, 7}},
		{api.Pixel{1, -0.5, -1, 7}, 0.5, api.Pixel{1, float32(1) - float32(0.5+0.5*float32(2.0/3)), 0.125, 7}},
		{api.Pixel{1, 0.53125, 0.46875, 7}, 0.5, api.Pixel{1, 0.53125, 1 - float32(0.5+float32(0.5*float32(0.0625/1.0625))), 7}},
		{api.Pixel{2, 2, 0, -1}, 0, api.Pixel{2, 2, 1, -1}}, {api.Pixel{2, 1, 2, -1}, 0, api.Pixel{2, 2 - float32(1.0/3)*2, 2, -1}}, {api.Pixel{0, 2, 4, 1}, zero, api.Pixel{2, 4 - float32(0.5/1.5)*4, 4, 1}},
		{api.Pixel{0, 4, 0, oddNaN()}, 0.5, api.Pixel{1, 4, 1, nan()}}, {api.Pixel{0, 0, 4, inf}, 0.5, api.Pixel{1, 1, 4, inf}},
		// Nothing above 0, or no numbers: the pixel stays.
		{api.Pixel{0, -1, -2, 1}, 0.5, api.Pixel{0, -1, -2, 1}}, {api.Pixel{-3, -1, -2, 1}, 0, api.Pixel{-3, -1, -2, 1}}, {api.Pixel{zero, 0, zero, zero}, 0, api.Pixel{zero, 0, zero, zero}},
		{api.Pixel{oddNaN(), 1, -1, 1}, 0, api.Pixel{nan(), 1, -1, 1}}, {api.Pixel{1, oddNaN(), -1, 1}, 0, api.Pixel{1, nan(), -1, 1}}, {api.Pixel{1, -1, oddNaN(), oddNaN()}, 0, api.Pixel{1, -1, nan(), nan()}},
		{api.Pixel{inf, 1, -1, 1}, 0, api.Pixel{inf, 1, -1, 1}}, {api.Pixel{1, -inf, -1, 1}, 0, api.Pixel{1, -inf, -1, 1}}, {api.Pixel{1, -1, -inf, 1}, 0, api.Pixel{1, -1, -inf, 1}}, {api.Pixel{-1, -inf, -1, 1}, 0, api.Pixel{-1, -inf, -1, 1}},
		// x is infinite, or so great that x / (1 + x) is 1.
		{api.Pixel{1, 0, -greatest, 1}, below(1), api.Pixel{1, 0, 0, 1}}, {api.Pixel{least, 0, -1, 1}, 0, api.Pixel{least, least, 0, 1}}, {api.Pixel{greatest, -greatest, 0, 1}, 0, api.Pixel{greatest, 0, greatest / 2, 1}},
		{api.Pixel{1, -0x1p30, 0, 1}, 0.75, api.Pixel{1, 0, 0.125, 1}},
	} {
		got, e := finish.Compress(c.pixel, c.from)
		checkError(t, e, api.OK, "Compress", c)
		checkPixel(t, got, c.want, "Compress", c)
	}
}

func TestP138Compress(t *testing.T) {
	m := mixer{}
	for n := range 100000 {
		p := pixelOf([]func() float32{m.plain, m.rare, m.wild, m.any}[n%4])
		from := m.between(0, 0.99)
		if m.below(6) == 0 {
			from = []float32{0, minusZero(), below(1), least, 0.5}[m.below(5)]
		}
		got, e := finish.Compress(p, from)
		checkError(t, e, api.OK, "Compress", p, from)
		checkPixel(t, got, wantCompressed(p, from), "Compress", p, from)
	}
}

// What follows: hardly anything is left below 0.
func TestP138CompressBringsNearer(t *testing.T) {
	m := mixer{}
	for range 200000 {
		p := pixelOf(func() float32 {
			v := m.between(-0x1p20, 0x1p20)
			return float32(math.Ldexp(float64(v), -m.below(60)))
		})
		from := m.between(0, 0.9999)
		a := max(p[0], p[1], p[2])
		if a <= 0 {
			continue
		}
		got, _ := finish.Compress(p, from)
		for i, v := range got[:3] {
			if float64(v) < -0x1p-20*float64(a) {
				t.Error("far below 0:", p, from, got)
			}
			if v > a || p[i] >= 0 && p[i] > v+0x1p-20*a {
				t.Error("not nearer:", p, from, got)
			}
		}
	}
}

func TestP138CompressErrors(t *testing.T) {
	for _, p := range []api.Pixel{{1, -1, 0, 1}, {oddNaN()}, {-1, -1, -1, -1}} {
		for _, v := range noNumbers() {
			got, e := finish.Compress(p, v)
			refused(t, got, e, api.ErrForm, "Compress", v)
		}
		for _, v := range []float32{-least, -1, 1, above(1), 2, greatest, -greatest} {
			got, e := finish.Compress(p, v)
			refused(t, got, e, api.ErrRange, "Compress", v)
		}
	}
}

func TestP139Clip(t *testing.T) {
	inf, zero := infinity(), minusZero()
	for _, c := range []struct {
		pixel     api.Pixel
		low, high float32
		want      api.Pixel
		many      int
	}{
		{api.Pixel{2, -1, 0.5, 7}, 0, 1, api.Pixel{1, 0, 0.5, 7}, 2}, {api.Pixel{0, 1, 0.5, -7}, 0, 1, api.Pixel{0, 1, 0.5, -7}, 0}, {api.Pixel{3, 3, 3, 3}, 1, 2, api.Pixel{2, 2, 2, 3}, 3}, {api.Pixel{0, 0, 3, 3}, 0, 2, api.Pixel{0, 0, 2, 3}, 1},
		{api.Pixel{inf, -inf, oddNaN(), oddNaN()}, -1, 1, api.Pixel{1, -1, nan(), nan()}, 2}, {api.Pixel{oddNaN(), single(0x7f800001), nan(), 0}, -1, 1, api.Pixel{nan(), nan(), nan(), 0}, 0},
		{api.Pixel{inf, -inf, 0, inf}, -greatest, greatest, api.Pixel{greatest, -greatest, 0, inf}, 2},
		// Zeros are neither less nor greater than each other.
		{api.Pixel{zero, 0, zero, zero}, 0, 1, api.Pixel{zero, 0, zero, zero}, 0}, {api.Pixel{zero, 0, 1, 0}, zero, 0, api.Pixel{zero, 0, 0, 0}, 1}, {api.Pixel{-1, 1, 0, 0}, zero, zero, api.Pixel{zero, zero, 0, 0}, 2}, {api.Pixel{-1, 1, zero, 0}, 0, zero, api.Pixel{0, zero, zero, 0}, 2},
		{api.Pixel{above(1), below(1), 1, 1}, 1, 1, api.Pixel{1, 1, 1, 1}, 2},
	} {
		got, many, e := finish.Clip(c.pixel, c.low, c.high)
		if e != api.OK || many != c.many {
			t.Errorf("Clip of %v: %d changed, error %d, want %d", c, many, e, c.many)
		}
		checkPixel(t, got, c.want, "Clip", c)
	}
	m := mixer{}
	for range 20000 {
		p, low, high := pixelOf(m.wild), m.plain(), m.plain()
		if low > high {
			low, high = high, low
		}
		want, many := colouredBy(p, func(_ int, v float32) float32 { return limit(v, low, high) }), 0
		for i, v := range want {
			if clean(v) != clean(p[i]) {
				many++
			}
		}
		got, n, e := finish.Clip(p, low, high)
		if e != api.OK || n != many {
			t.Errorf("Clip of %v to %v, %v: %d changed, error %d, want %d", p, low, high, n, e, many)
		}
		checkPixel(t, got, want, "Clip", p, low, high)
	}
}

func TestP139ClipErrors(t *testing.T) {
	refuse := func(low, high float32, want api.Errno) {
		t.Helper()
		got, n, e := finish.Clip(api.Pixel{5, -5, 0, 1}, low, high)
		refused(t, got, e, want, "Clip", low, high)
		refused(t, n, e, want, "Clip", low, high)
	}
	for _, v := range noNumbers() {
		for _, w := range []float32{0, greatest, -greatest} {
			refuse(v, w, api.ErrForm)
			refuse(w, v, api.ErrForm)
		}
	}
	for _, v := range []float32{-1, 0, 1, greatest} {
		refuse(v, below(v), api.ErrOrder)
		refuse(v, -greatest, api.ErrOrder)
	}
}
