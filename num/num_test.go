package num_test

import (
	"math"
	"slices"
	"testing"

	"dyehouse/api"
	"dyehouse/num"
)

func TestP1CleanAndBits(t *testing.T) {
	for _, v := range samples(2000) {
		b := math.Float32bits(v)
		want := clean(v)
		if got := math.Float32bits(num.Clean(v)); got != want {
			t.Errorf("Clean of %08x: %08x", b, got)
		}
		if got := num.Bits(v); got != want {
			t.Errorf("Bits of %08x: %08x", b, got)
		}
		if got := math.Float32bits(num.FromBits(b)); got != want {
			t.Errorf("FromBits of %08x: %08x", b, got)
		}
	}
}

func TestP1Kind(t *testing.T) {
	for b, want := range map[uint32]int{
		0x00000000: api.KindZero,
		0x00000001: api.KindSmall,
		0x00400000: api.KindSmall,
		0x007fffff: api.KindSmall,
		0x00800000: api.KindNormal,
		0x3f800000: api.KindNormal,
		0x7f7fffff: api.KindNormal,
		0x7f800000: api.KindInfinite,
		0x7f800001: api.KindNaN,
		0x7fc00000: api.KindNaN,
		0x7fffffff: api.KindNaN,
	} {
		for _, sign := range []uint32{0, 1 << 31} {
			if got := num.Kind(single(b | sign)); got != want {
				t.Errorf("Kind of %08x: %d, want %d", b|sign, got, want)
			}
		}
	}
}

func TestP2Next(t *testing.T) {
	pairs := [][2]uint32{ // each stands right behind the other
		{0xff800000, 0xff7fffff}, {0xff7fffff, 0xff7ffffe}, {0xbf800001, 0xbf800000}, {0xbf800000, 0xbf7fffff},
		{0x80800000, 0x807fffff}, {0x80000002, 0x80000001}, {0x80000001, 0x80000000}, {0x80000000, 0x00000000},
		{0x00000000, 0x00000001}, {0x00000001, 0x00000002}, {0x007fffff, 0x00800000}, {0x3f7fffff, 0x3f800000},
		{0x3f800000, 0x3f800001}, {0x7f7ffffe, 0x7f7fffff}, {0x7f7fffff, 0x7f800000},
	}
	for _, p := range pairs {
		check(t, num.Next(single(p[0]), true), single(p[1]), "up", p)
		check(t, num.Next(single(p[1]), false), single(p[0]), "down", p)
	}
	check(t, num.Next(infinity(), true), infinity(), "the upper end")
	check(t, num.Next(-infinity(), false), -infinity(), "the lower end")
	for _, b := range []uint32{0x7f800001, 0x7fc00000, 0xff800001, 0xffc00000, 0xffffffff} {
		check(t, num.Next(single(b), true), single(nanBits), "NaN up")
		check(t, num.Next(single(b), false), single(nanBits), "NaN down")
	}
	for _, v := range samples(2000) {
		if v != v || math.IsInf(float64(v), 0) {
			continue
		}
		check(t, num.Next(num.Next(v, true), false), v, "up and down", v)
		if up := num.Next(v, true); v != 0 && up <= v {
			t.Errorf("Next of %v up: %v", v, up)
		}
	}
}

func TestP2Apart(t *testing.T) {
	nan := single(0xffc00001)
	tests := []struct {
		a, b float32
		n    int
		is   bool
	}{
		{0, 0, 0, true},
		{single(0x80000000), 0, 1, true},
		{0, single(0x80000000), -1, true},
		{0, single(1), 1, true},
		{single(0x80000000), single(0x80000001), -1, true},
		{single(0x80000001), single(1), 3, true},
		{1, 2, 1 << 23, true},
		{2, 1, -1 << 23, true},
		{-1, -2, -1 << 23, true},
		{0, infinity(), 0x7f800000, true},
		{-infinity(), infinity(), 2*0x7f800000 + 1, true},
		{infinity(), -infinity(), -2*0x7f800000 - 1, true},
		{infinity(), infinity(), 0, true},
		{nan, 1, 0, false},
		{1, nan, 0, false},
		{nan, nan, 0, false},
	}
	for _, c := range tests {
		if n, is := num.Apart(c.a, c.b); n != c.n || is != c.is {
			t.Errorf("Apart(%v, %v): %d %v, want %d %v", c.a, c.b, n, is, c.n, c.is)
		}
	}
	for _, v := range samples(2000) {
		if v != v || v == infinity() {
			continue
		}
		if n, is := num.Apart(v, num.Next(v, true)); n != 1 || !is {
			t.Errorf("Apart of %v and the next one: %d %v", v, n, is)
		}
	}
}

func TestP3Near(t *testing.T) {
	const most = 1 << 24
	tests := []struct {
		v         float32
		low, high int
		n         int
		in        bool
	}{
		{2.5, -10, 10, 2, true}, {3.5, -10, 10, 4, true}, {0.5, -10, 10, 0, true}, {1.5, -10, 10, 2, true},
		{-0.5, -10, 10, 0, true}, {-1.5, -10, 10, -2, true}, {-2.5, -10, 10, -2, true},
		{2.4, -10, 10, 2, true}, {2.6, -10, 10, 3, true}, {-2.4, -10, 10, -2, true}, {-2.6, -10, 10, -3, true},
		{0.49999997, -10, 10, 0, true}, {single(0x80000000), -10, 10, 0, true}, {single(1), 0, 0, 0, true},
		{10, -10, 10, 10, true}, {10.5, -10, 10, 10, true}, {10.6, -10, 10, 10, false}, {11.5, 0, 11, 11, false},
		{-10.5, -10, 10, -10, true}, {-10.6, -10, 10, -10, false}, {-11.5, -11, 0, -11, false},
		{7, 7, 7, 7, true}, {6, 7, 7, 7, false}, {8, 7, 7, 7, false}, {3, -9, -5, -5, false}, {-9, 5, 9, 5, false},
		{8388607.5, 0, most, 8388608, true}, {8388606.5, 0, most, 8388606, true}, {8388609, 0, most, 8388609, true},
		{most, -most, most, most, true}, {-most, -most, most, -most, true}, {most + 2, -most, most, most, false},
		{infinity(), -10, 10, 10, false}, {-infinity(), -10, 10, -10, false}, {3e38, -10, 10, 10, false}, {-3e38, -10, 10, -10, false},
		{single(nanBits), -10, 10, -10, false}, {single(0xffc00001), 3, 10, 3, false}, {single(0x7f800001), 0, 0, 0, false},
	}
	for _, c := range tests {
		n, in, e := num.Near(c.v, c.low, c.high)
		if n != c.n || in != c.in || e != api.OK {
			t.Errorf("Near(%v, %d, %d): %d %v %d", c.v, c.low, c.high, n, in, e)
		}
	}
}

func TestP3NearErrors(t *testing.T) {
	const most = 1 << 24
	for _, c := range [][2]int{
		{1, 0}, {-1, -2}, {0, most + 1}, {-most - 1, 0}, {most + 1, most + 1}, {-most - 1, -most - 1},
		{most + 1, most + 2}, {math.MinInt, 0}, {0, math.MaxInt}, {math.MinInt, math.MaxInt}, {math.MaxInt, math.MinInt},
	} {
		for _, v := range []float32{0, 1, infinity(), single(nanBits)} {
			if n, in, e := num.Near(v, c[0], c[1]); n != 0 || in || e != api.ErrOrder {
				t.Errorf("Near(%v, %d, %d): %d %v %d", v, c[0], c[1], n, in, e)
			}
		}
	}
}

func TestP4Limit(t *testing.T) {
	nan, zero := single(0xffc00001), single(0x80000000)
	for _, c := range []struct{ v, low, high, want float32 }{
		{0.5, 0, 1, 0.5}, {-0.5, 0, 1, 0}, {1.5, 0, 1, 1}, {0, 0, 1, 0}, {1, 0, 1, 1},
		{zero, 0, 1, zero}, {0, zero, 1, 0}, {-1, zero, 1, zero}, {1, -1, zero, zero}, {0, -1, zero, 0}, {zero, -1, 0, zero},
		{infinity(), 0, 1, 1}, {-infinity(), 0, 1, 0}, {infinity(), 0, infinity(), infinity()},
		{0, 5, 1, 5}, {7, 5, 1, 1}, {3, 5, 1, 5},
		{nan, 0, 1, nan}, {single(0x7f800001), 0, 1, nan}, {0.5, nan, nan, 0.5}, {5, nan, 1, 1}, {-5, 0, nan, 0},
	} {
		check(t, num.Limit(c.v, c.low, c.high), c.want, "Limit", c)
	}
}

func TestP4Lerp(t *testing.T) {
	nan, zero := single(0xffc00001), single(0x80000000)
	for _, c := range []struct{ a, b, t, want float32 }{
		{2, 4, 0.5, 3}, {2, 4, 2, 6}, {2, 4, -1, 0}, {4, 2, 0.25, 3.5},
		{2, infinity(), 0, 2}, {2, nan, 0, 2}, {zero, 5, 0, zero}, {2, infinity(), zero, 2}, {infinity(), 4, zero, infinity()},
		{infinity(), 4, 1, 4}, {nan, 4, 1, 4}, {1e8, 1, 1, 1}, {5, zero, 1, zero},
		{nan, 4, 0, nan}, {2, nan, 1, nan}, {nan, 4, 0.5, nan}, {2, nan, 0.5, nan}, {2, 4, nan, nan}, {2, 2, nan, nan},
		{infinity(), 4, 0.5, nan}, {2, infinity(), 0.5, infinity()}, {infinity(), infinity(), 0.5, nan}, {2, 4, infinity(), infinity()},
		{3e38, -3e38, 0.5, -infinity()}, {1e-45, 3e-45, 0.5, 1e-45}, {1e-45, 4e-45, 0.5, 3e-45},
	} {
		check(t, num.Lerp(c.a, c.b, c.t), c.want, "Lerp", c)
	}
	m := mixer{}
	for range 20000 {
		a, b, f := m.plain(), m.plain(), m.plain()
		// A double holds a sum, difference or product well enough to be rounded once.
		d := float32(float64(b) - float64(a))
		p := float32(float64(d) * float64(f))
		check(t, num.Lerp(a, b, f), float32(float64(a)+float64(p)), "Lerp", a, b, f)
	}
}

func TestP4Smooth(t *testing.T) {
	for _, c := range [][2]float32{
		{0, 0}, {single(0x80000000), 0}, {0.25, 0.15625}, {0.5, 0.5}, {0.75, 0.84375}, {1, 1},
		{7, 1}, {-7, 0}, {infinity(), 1}, {-infinity(), 0}, {single(0xffc00001), single(nanBits)}, {single(1), 0},
	} {
		check(t, num.Smooth(c[0]), c[1], "Smooth", c[0])
	}
	m := mixer{}
	for range 20000 {
		s := num.Unit(m.next())
		square := float32(float64(s) * float64(s))
		rest := float32(3 - float64(float32(2*float64(s))))
		check(t, num.Smooth(s), float32(float64(square)*float64(rest)), "Smooth", s)
	}
}

func TestP2OrderIsThatOfValues(t *testing.T) {
	var l []float32
	for _, v := range samples(500) {
		if v == v {
			l = append(l, v)
		}
	}
	slices.SortFunc(l, func(a, b float32) int {
		n, _ := num.Apart(b, a)
		return n
	})
	for i := 1; i < len(l); i++ {
		if l[i] < l[i-1] {
			t.Errorf("%v behind %v", l[i], l[i-1])
		}
		if l[i] == 0 && l[i-1] == 0 && math.Signbit(float64(l[i])) && !math.Signbit(float64(l[i-1])) {
			t.Error("-0 behind 0")
		}
	}
}
