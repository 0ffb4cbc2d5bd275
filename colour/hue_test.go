package colour_test

import (
	"math"
	"testing"

	"dyehouse/api"
	"dyehouse/colour"
)

func TestP52Weights(t *testing.T) {
	m := mixer{}
	for range 200 {
		p := m.primaries()
		w, e := colour.Weights(p)
		y := wantToXYZ(p)
		checkList(t, w[:], []float32{float32(y[3]), float32(y[4]), float32(y[5])}, "Weights", p)
		if e != api.OK {
			t.Errorf("Weights(%v): %d", p, e)
		}
	}
	for p, want := range badPrimaries() {
		w, e := colour.Weights(p)
		refused(t, w, e, want, "Weights", p)
	}
	for _, p := range flat() {
		w, e := colour.Weights(p)
		refused(t, w, e, api.ErrRange, "Weights", p)
	}
}

func wantLuma(w [3]float32, p api.Pixel) float32 {
	return add(add(mul(w[0], p[0]), mul(w[1], p[1])), mul(w[2], p[2]))
}

func TestP52Luma(t *testing.T) {
	m, zero, inf, nan := mixer{}, minusZero(), infinity(), oddNaN()
	for range 2000 {
		for _, p := range []api.Pixel{pixel(m.plain), pixel(m.wild)} {
			w := [3]float32{m.plain(), m.plain(), m.plain()}
			check(t, colour.Luma(w, p), wantLuma(w, p), "Luma", w, p)
			w[m.next()%3] = m.wild()
			check(t, colour.Luma(w, p), wantLuma(w, p), "Luma", w, p)
		}
	}
	for _, c := range []struct {
		w    [3]float32
		p    api.Pixel
		want float32
	}{
		{[3]float32{1, 2, 3}, api.Pixel{1, 10, 100, nan}, 321},
		{[3]float32{1, 1, 1}, api.Pixel{1e8, 1, -1e8, 1}, 0},
		{[3]float32{1, 1, 1}, api.Pixel{1e8, -1e8, 1, 1}, 1},
		{[3]float32{1, 1, 1}, api.Pixel{zero, zero, zero, 1}, zero},
		{[3]float32{0, 0, 0}, api.Pixel{1, inf, 1, 1}, nan},
		{[3]float32{1, 1, 1}, api.Pixel{inf, 1, -inf, 1}, nan},
		{[3]float32{1, 1, 1}, api.Pixel{3e38, 3e38, 1, 1}, inf},
	} {
		check(t, colour.Luma(c.w, c.p), c.want, "Luma", c.w, c.p)
	}
}

func wantSaturate(w [3]float32, p api.Pixel, amount float32) api.Pixel {
	l := wantLuma(w, p)
	for i := range 3 {
		p[i] = add(l, mul(sub(p[i], l), amount))
	}
	return p
}

func TestP52Saturate(t *testing.T) {
	m, zero, inf, nan := mixer{}, minusZero(), infinity(), oddNaN()
	for range 2000 {
		w, p, amount := [3]float32{m.between(0, 1), m.plain(), m.plain()}, pixel(m.plain), m.between(-1, 3)
		checkPixel(t, colour.Saturate(w, p, amount), wantSaturate(w, p, amount), "Saturate", w, p, amount)
		p, amount = pixel(m.wild), m.wild()
		checkPixel(t, colour.Saturate(w, p, amount), wantSaturate(w, p, amount), "Saturate", w, p, amount)
	}
	w := [3]float32{0.25, 0.5, 0.25}
	for _, c := range []struct {
		p      api.Pixel
		amount float32
		want   api.Pixel
	}{
		{api.Pixel{4, 2, 8, 7}, 2, api.Pixel{4, 0, 12, 7}},
		{api.Pixel{4, 2, 8, nan}, 0, api.Pixel{4, 4, 4, nan}},
		{api.Pixel{4, 2, 8, zero}, -1, api.Pixel{4, 6, 0, zero}},
		{api.Pixel{4, nan, 8, 1}, 1, api.Pixel{nan, nan, nan, 1}},
		{api.Pixel{4, 2, 8, 1}, nan, api.Pixel{nan, nan, nan, 1}},
		{api.Pixel{4, 2, 8, 1}, inf, api.Pixel{nan, -inf, inf, 1}},
		{api.Pixel{inf, 2, 8, -inf}, 1, api.Pixel{nan, nan, nan, -inf}},
	} {
		checkPixel(t, colour.Saturate(w, c.p, c.amount), c.want, "Saturate", c.p, c.amount)
	}
}

// wantHSV are the hue, the saturation and the value of a pixel.
func wantHSV(p api.Pixel) [3]float32 {
	red, green, blue := p[0], p[1], p[2]
	if red != red || green != green || blue != blue {
		return [3]float32{oddNaN(), oddNaN(), oddNaN()}
	}
	v, m := red, red
	for _, c := range []float32{green, blue} {
		if c > v {
			v = c
		}
		if c < m {
			m = c
		}
	}
	d := sub(v, m)
	s, h := div(d, v), float32(0)
	if v == 0 {
		s = 0
	}
	switch {
	case d == 0:
		return [3]float32{0, s, v}
	case v == red:
		h = div(sub(green, blue), d)
	case v == green:
		h = add(div(sub(blue, red), d), 2)
	default:
		h = add(div(sub(red, green), d), 4)
	}
	if h = div(h, 6); h < 0 {
		h = add(h, 1)
	}
	return [3]float32{h, s, v}
}

func checkHSV(t *testing.T, p api.Pixel, want [3]float32) {
	t.Helper()
	h, s, v := colour.ToHSV(p)
	checkList(t, []float32{h, s, v}, want[:], "ToHSV", p)
}

func TestP53ToHSV(t *testing.T) {
	m := mixer{}
	for range 5000 {
		p := pixel(m.plain)
		checkHSV(t, p, wantHSV(p))
		p = pixel(m.wild)
		checkHSV(t, p, wantHSV(p))
		p = pixel(func() float32 { return float32(m.next()%4) - 1 }) // many are equal
		checkHSV(t, p, wantHSV(p))
	}
	zero, inf, nan, small := minusZero(), infinity(), oddNaN(), single(1)
	third := div(2, 6)
	for _, c := range []struct {
		p    api.Pixel
		want [3]float32
	}{
		{api.Pixel{1, 0, 0, nan}, [3]float32{0, 1, 1}},
		{api.Pixel{0, 1, 0, 1}, [3]float32{third, 1, 1}},
		{api.Pixel{0, 0, 1, 1}, [3]float32{div(4, 6), 1, 1}},
		{api.Pixel{1, 1, 0, 1}, [3]float32{div(1, 6), 1, 1}},
		{api.Pixel{0, 1, 1, 1}, [3]float32{0.5, 1, 1}},
		{api.Pixel{2, 0, 2, 1}, [3]float32{add(div(-1, 6), 1), 1, 2}},
		{api.Pixel{2, 1, 1, 1}, [3]float32{0, 0.5, 2}},
		{api.Pixel{3, 3, 3, 1}, [3]float32{0, 0, 3}},
		{api.Pixel{-3, -3, -3, 1}, [3]float32{0, zero, -3}}, // 0 / -3
		{api.Pixel{-1, -2, -2, 1}, [3]float32{0, -1, -1}},
		{api.Pixel{0, -1, -1, 1}, [3]float32{0, 0, 0}},
		{api.Pixel{zero, 0, 0, 1}, [3]float32{0, 0, zero}}, // 0 is not greater
		{api.Pixel{0, zero, zero, 1}, [3]float32{0, 0, 0}},
		{api.Pixel{1, zero, 0, 1}, [3]float32{zero, 1, 1}},
		{api.Pixel{1, 0, 1e-10, 1}, [3]float32{1, 1, 1}}, // 1 more than what is hardly below 0
		{api.Pixel{small, 0, 0, 1}, [3]float32{0, 1, small}},
		{api.Pixel{inf, 0, 0, 1}, [3]float32{0, nan, inf}},
		{api.Pixel{0, inf, 0, 1}, [3]float32{third, nan, inf}},
		{api.Pixel{-inf, 0, -inf, 1}, [3]float32{nan, 0, 0}},
		{api.Pixel{inf, inf, inf, 1}, [3]float32{nan, nan, inf}},
		{api.Pixel{-inf, -inf, -inf, 1}, [3]float32{nan, nan, -inf}},
		{api.Pixel{3e38, -3e38, 0, 1}, [3]float32{zero, inf, 3e38}},
		{api.Pixel{nan, 1, 2, 3}, [3]float32{nan, nan, nan}},
		{api.Pixel{1, nan, 2, 3}, [3]float32{nan, nan, nan}},
		{api.Pixel{1, 2, nan, 3}, [3]float32{nan, nan, nan}},
	} {
		checkHSV(t, c.p, c.want)
	}
}

// wantFromHSV is the pixel of a hue, a saturation and a value.
func wantFromHSV(h, s, v, alpha float32) api.Pixel {
	for _, n := range []float32{h, s, v} {
		if n-n != 0 {
			return api.Pixel{oddNaN(), oddNaN(), oddNaN(), alpha}
		}
	}
	six := mul(sub(h, float32(math.Floor(float64(h)))), 6)
	i := int(six)
	if i > 5 {
		i = 5
	}
	f := sub(six, float32(i))
	p := mul(v, sub(1, s))
	q := mul(v, sub(1, mul(s, f)))
	t := mul(v, sub(1, mul(s, sub(1, f))))
	l := [][3]float32{{v, t, p}, {q, v, p}, {p, v, t}, {p, q, v}, {t, p, v}, {v, p, q}}[i]
	return api.Pixel{l[0], l[1], l[2], alpha}
}

func TestP53FromHSV(t *testing.T) {
	m := mixer{}
	for range 5000 {
		h, s, v, alpha := m.between(-2, 3), m.between(0, 1), m.plain(), m.wild()
		checkPixel(t, colour.FromHSV(h, s, v, alpha), wantFromHSV(h, s, v, alpha), "FromHSV", h, s, v)
		h, s, v = m.wild(), m.wild(), m.wild()
		checkPixel(t, colour.FromHSV(h, s, v, alpha), wantFromHSV(h, s, v, alpha), "FromHSV", h, s, v)
		s, v = m.plain(), m.plain()
		checkPixel(t, colour.FromHSV(h, s, v, alpha), wantFromHSV(h, s, v, alpha), "FromHSV", h, s, v)
	}
	zero, inf, nan := minusZero(), infinity(), oddNaN()
	for _, c := range []struct {
		h, s, v float32
		want    api.Pixel
	}{
		{0, 1, 1, api.Pixel{1, 0, 0}}, {zero, 1, 1, api.Pixel{1, 0, 0}}, {1, 1, 1, api.Pixel{1, 0, 0}}, {-7, 1, 1, api.Pixel{1, 0, 0}},
		{0.25, 0.5, 2, api.Pixel{1.5, 2, 1}}, {0.5, 1, 1, api.Pixel{0, 1, 1}}, {0.75, 0.5, 2, api.Pixel{1.5, 1, 2}}, {-0.25, 0.5, 2, api.Pixel{1.5, 1, 2}},
		{0.0625, 1, 1, api.Pixel{1, 0.375, 0}}, {0.4375, 1, 1, api.Pixel{0, 1, 0.625}}, {0.9375, 1, 1, api.Pixel{1, 0, 0.375}}, {0.5625, 1, 1, api.Pixel{0, 0.625, 1}},
		{-1e-10, 1, 1, api.Pixel{1, 0, 0}}, // the rest is 1
		{below(1), 0.5, 1, wantFromHSV(below(1), 0.5, 1, 0)},
		{3e38, 1, 1, api.Pixel{1, 0, 0}}, {-single(1), 1, 1, api.Pixel{1, 0, 0}},
		{0.25, 2, 1, api.Pixel{0, 1, -1}}, {0.25, -1, 1, api.Pixel{1.5, 1, 2}}, {0, -3e38, 3e38, api.Pixel{3e38, inf, inf}},
		{0.5, 0, 3, api.Pixel{3, 3, 3}}, {0.5, 1, zero, api.Pixel{zero, zero, zero}},
	} {
		checkPixel(t, colour.FromHSV(c.h, c.s, c.v, 0), c.want, "FromHSV", c.h, c.s, c.v)
	}
	for _, v := range noNumbers() {
		for _, alpha := range []float32{0.25, zero, inf, nan} {
			want := api.Pixel{nan, nan, nan, alpha}
			checkPixel(t, colour.FromHSV(v, 0.5, 0.5, alpha), want, "FromHSV of", v)
			checkPixel(t, colour.FromHSV(0.5, v, 0.5, alpha), want, "FromHSV of", v)
			checkPixel(t, colour.FromHSV(0.5, 0.5, v, alpha), want, "FromHSV of", v)
		}
	}
}

func TestP53HueApart(t *testing.T) {
	nan := oddNaN()
	want := func(a, b float32) float32 {
		if a-a != 0 || b-b != 0 {
			return nan
		}
		d := sub(a, b)
		return float32(math.Abs(float64(sub(d, float32(math.Floor(float64(add(d, 0.5))))))))
	}
	m := mixer{}
	for range 3000 {
		a, b := m.between(-1, 2), m.between(-1, 2)
		check(t, colour.HueApart(a, b), want(a, b), "HueApart", a, b)
		a, b = m.wild(), m.wild()
		check(t, colour.HueApart(a, b), want(a, b), "HueApart", a, b)
	}
	for _, c := range [][3]float32{
		{0.5, 0, 0.5}, {0, 0.5, 0.5}, {0.875, 0.125, 0.25}, {0.125, 0.875, 0.25}, {0.25, 0.25, 0}, {minusZero(), 0, 0}, {0, minusZero(), 0},
		{5.25, 0, 0.25}, {0, 5.25, 0.25}, {1, 0, 0}, {-1, 0, 0}, {3e38, 0, 0}, {3e38, -3e38, nan}, {-3e38, 3e38, nan}, {single(1), 0, single(1)},
	} {
		check(t, colour.HueApart(c[0], c[1]), c[2], "HueApart", c[0], c[1])
	}
	for _, v := range noNumbers() {
		check(t, colour.HueApart(v, 0.5), nan, "HueApart", v, 0.5)
		check(t, colour.HueApart(0.5, v), nan, "HueApart", 0.5, v)
		check(t, colour.HueApart(v, v), nan, "HueApart", v, v)
	}
}

func TestP53Turn(t *testing.T) {
	m, nan := mixer{}, oddNaN()
	for range 3000 {
		for _, p := range []api.Pixel{pixel(m.plain), pixel(m.wild)} {
			for _, by := range []float32{m.between(-1, 1), m.wild()} {
				l := wantHSV(p)
				checkPixel(t, colour.Turn(p, by), wantFromHSV(add(l[0], by), l[1], l[2], p[3]), "Turn", p, by)
			}
		}
	}
	checkPixel(t, colour.Turn(api.Pixel{1, 0, 0, 0.25}, 0.5), api.Pixel{0, 1, 1, 0.25}, "Turn of red")
	checkPixel(t, colour.Turn(api.Pixel{1, 0, 0, nan}, nan), api.Pixel{nan, nan, nan, nan}, "Turn by a NaN")
	checkPixel(t, colour.Turn(api.Pixel{1, nan, 0, 0.5}, 0), api.Pixel{nan, nan, nan, 0.5}, "Turn of a NaN")
	checkPixel(t, colour.Turn(api.Pixel{0.5, 0.5, 0.5, minusZero()}, 0.3), api.Pixel{0.5, 0.5, 0.5, minusZero()}, "Turn of grey")
}
