package grade_test

import (
	"testing"

	"dyehouse/api"
	"dyehouse/grade"
	"dyehouse/num"
)

func wheelsOf(lift, gamma, gain float32) api.Wheels {
	same := func(v float32) [3]float32 { return [3]float32{v, v, v} }
	return api.Wheels{Lift: same(lift), Gamma: same(gamma), Gain: same(gain)}
}

func TestP65CheckWheels(t *testing.T) {
	good := wheelsOf(0, 1, 1)
	for _, w := range []api.Wheels{good, wheelsOf(greatest, 16, -greatest), wheelsOf(-greatest, 0.0625, greatest), wheelsOf(minusZero(), 1, single(1)), wheelsOf(3, 2, 1)} {
		checkError(t, grade.CheckWheels(w), api.OK, w)
	}
	for i := range 3 {
		for _, v := range noNumbers() {
			w := good
			w.Lift[i] = v
			checkError(t, grade.CheckWheels(w), api.ErrForm, w)
			w = good
			w.Gamma[i] = v
			checkError(t, grade.CheckWheels(w), api.ErrForm, w)
			w = good
			w.Gain[i] = v
			checkError(t, grade.CheckWheels(w), api.ErrForm, w)
			w.Gamma = [3]float32{0, 20, -1} // the form of all comes first
			checkError(t, grade.CheckWheels(w), api.ErrForm, w)
		}
		for _, v := range []float32{below(0.0625), above(16), 0, minusZero(), -1, single(1), greatest, -greatest} {
			w := good
			w.Gamma[i] = v
			checkError(t, grade.CheckWheels(w), api.ErrRange, w)
		}
	}
}

// wantWheels is what one channel of wheels does.
func wantWheels(lift, gamma, gain, v float32) float32 {
	u := add(mul(v, sub(gain, lift)), lift)
	if !(u > 0) || gamma == 1 {
		return u
	}
	return num.Power(u, div(1, gamma))
}

func TestP65Wheels(t *testing.T) {
	m := mixer{}
	for i := range 20000 {
		w, p := m.wheels(), pixel(m.wild)
		if i%2 == 0 { // also wheels that CheckWheels refuses
			w = api.Wheels{Lift: three(m.wild), Gamma: three(m.wild), Gain: three(m.wild)}
		}
		want := p
		for c := range 3 {
			want[c] = wantWheels(w.Lift[c], w.Gamma[c], w.Gain[c], p[c])
		}
		checkPixel(t, grade.Wheels(w, p), want, "Wheels", w, p)
	}
}

func TestP65WheelsEdges(t *testing.T) {
	zero, inf, nan := minusZero(), infinity(), oddNaN()
	for _, c := range []struct{ lift, gamma, gain, v, want float32 }{
		{0, 1, 1, 0.3, 0.3}, {0, 1, 1, zero, 0}, {zero, 1, 1, zero, zero}, {0, 1, 1, -7, -7}, {0, 1, 1, inf, inf}, {0, 1, 1, -inf, -inf}, {0, 1, 1, nan, nan},
		{zero, 2, 1, zero, zero}, {zero, 0.5, 1, zero, zero}, // 0 is not greater than 0
		{0, 2, 1, -4, -4}, {0, 2, 1, -inf, -inf}, {0, 2, 1, inf, inf}, {0, 2, 1, 4, 2}, {0, 0.5, 1, 4, 16}, {0, 16, 1, 65536, 2}, {0, 0.0625, 1, 2, 65536},
		{0.25, 2, 0.25, 8, 0.5}, {0.5, 1, 2, 1, 2}, {0.5, 1, 2, 0, 0.5}, {-1, 2, 1, 0, -1}, {-1, 2, 1, 0.5, 0},
		{-greatest, 1, greatest, 1, inf}, {-greatest, 2, greatest, 0, nan}, {-greatest, 1, greatest, -1, -inf},
		{0, 1, 0, inf, nan}, {0, 2, 0, -inf, nan}, {greatest, 1, -greatest, 0, nan},
		{0, 1, 3, 1.0 / 3, 1}, {1, 1, 1.0 / 3, 0.1, 0.93333334},
	} {
		got := grade.Wheels(wheelsOf(c.lift, c.gamma, c.gain), api.Pixel{c.v, c.v, c.v, c.v})
		checkPixel(t, got, api.Pixel{c.want, c.want, c.want, c.v}, "Wheels", c)
	}
}

func listOf(slope, offset, power, saturation float32) api.CDL {
	same := func(v float32) [3]float32 { return [3]float32{v, v, v} }
	return api.CDL{Slope: same(slope), Offset: same(offset), Power: same(power), Saturation: saturation}
}

func TestP66CheckList(t *testing.T) {
	good := listOf(1, 0, 1, 1)
	for _, c := range []api.CDL{
		good, listOf(0, -greatest, 0.0625, 0), listOf(greatest, greatest, 16, 8), listOf(minusZero(), minusZero(), 2, minusZero()),
	} {
		checkError(t, grade.CheckList(c), api.OK, c)
	}
	for i := range 3 {
		for _, v := range noNumbers() {
			c := good
			c.Slope[i] = v
			checkError(t, grade.CheckList(c), api.ErrForm, c)
			c = good
			c.Offset[i] = v
			checkError(t, grade.CheckList(c), api.ErrForm, c)
			c = good
			c.Power[i] = v
			checkError(t, grade.CheckList(c), api.ErrForm, c)
			c = good
			c.Saturation = v
			checkError(t, grade.CheckList(c), api.ErrForm, c)
			c.Slope, c.Power = [3]float32{-1, -1, -1}, [3]float32{20, 0, -1} // the form of all comes first
			checkError(t, grade.CheckList(c), api.ErrForm, c)
		}
		for _, v := range []float32{-single(1), -1, -greatest} {
			c := good
			c.Slope[i] = v
			checkError(t, grade.CheckList(c), api.ErrRange, c)
		}
		for _, v := range []float32{below(0.0625), above(16), 0, minusZero(), -1, single(1), greatest, -greatest} {
			c := good
			c.Power[i] = v
			checkError(t, grade.CheckList(c), api.ErrRange, c)
		}
	}
	for _, v := range []float32{-single(1), above(8), -1, greatest, -greatest} {
		c := good
		c.Saturation = v
		checkError(t, grade.CheckList(c), api.ErrRange, c)
	}
}

// wantList is what a colour decision list makes of a pixel.
func wantList(c api.CDL, p api.Pixel) api.Pixel {
	for i, v := range p[:3] {
		u := add(mul(v, c.Slope[i]), c.Offset[i])
		if u < 0 {
			u = 0
		}
		if u > 1 {
			u = 1
		}
		if c.Power[i] != 1 {
			u = num.Power(u, c.Power[i])
		}
		p[i] = u
	}
	if c.Saturation == 1 {
		return p
	}
	l := add(add(mul(p[0], 0.2126), mul(p[1], 0.7152)), mul(p[2], 0.0722))
	for i, u := range p[:3] {
		p[i] = add(l, mul(sub(u, l), c.Saturation))
	}
	return p
}

func TestP66List(t *testing.T) {
	m := mixer{}
	for i := range 20000 {
		c, p := m.list(), pixel(func() float32 { return m.between(-0.2, 1.2) })
		switch i % 4 {
		case 0:
			p = pixel(m.wild)
		case 1: // also lists that CheckList refuses
			c = api.CDL{Slope: three(m.wild), Offset: three(m.wild), Power: three(m.wild), Saturation: m.wild()}
		case 2:
			c.Saturation = 1
		}
		checkPixel(t, grade.List(c, p), wantList(c, p), "List", c, p)
	}
}

func TestP66ListEdges(t *testing.T) {
	zero, inf, nan := minusZero(), infinity(), oddNaN()
	for _, c := range []struct{ slope, offset, power, v, want float32 }{
		{1, 0, 1, 0.3, 0.3}, {1, 0, 1, zero, 0}, {1, zero, 1, zero, zero}, {1, zero, 2, zero, 0}, {1, 0, 1, -0.5, 0}, {1, 0, 1, 1.5, 1},
		{1, 0, 1, inf, 1}, {1, 0, 1, -inf, 0}, {1, 0, 1, nan, nan}, {1, 0, 2, inf, 1}, {1, 0, 2, -inf, 0}, {1, 0, 2, nan, nan}, {0, 0, 1, inf, nan},
		{1, 0, 2, 0.5, 0.25}, {1, 0, 0.5, 0.25, 0.5}, {1, 0, 2, -3, 0}, {1, 0, 2, 3, 1}, {2, -0.25, 1, 0.5, 0.75}, {greatest, -greatest, 1, 2, 1}, {0, 0.25, 1, greatest, 0.25},
	} {
		got := grade.List(listOf(c.slope, c.offset, c.power, 1), api.Pixel{c.v, c.v, c.v, c.v})
		checkPixel(t, got, api.Pixel{c.want, c.want, c.want, c.v}, "List", c)
	}
	// With Saturation 1 no colour comes to another one; otherwise each does.
	plain, strong := listOf(1, 0, 1, 1), listOf(1, 0, 1, 2)
	checkPixel(t, grade.List(plain, api.Pixel{nan, 0.5, 0.25, nan}), api.Pixel{nan, 0.5, 0.25, nan}, "List of a NaN")
	checkPixel(t, grade.List(strong, api.Pixel{nan, 0.5, 0.25, 3}), api.Pixel{nan, nan, nan, 3}, "List of a NaN")
	// What is saturated is no longer limited, and is what Slope, Offset and Power made.
	got := grade.List(listOf(2, 0, 1, 2), api.Pixel{0.5, 0, 0, 1})
	checkPixel(t, got, api.Pixel{1.7874, -0.2126, -0.2126, 1}, "List of red")
}
