package num_test

import (
	"math"
	"testing"

	"dyehouse/api"
	"dyehouse/num"
)

// meaning is what the small float n without a sign means by IEEE 754, below infinity.
func meaning(n, exponent, fraction int) float64 {
	bias := 1<<(exponent-1) - 1
	e, f := n>>fraction, float64(n&(1<<fraction-1))/math.Ldexp(1, fraction)
	if e == 0 {
		return f * math.Ldexp(1, 1-bias)
	}
	return (1 + f) * math.Ldexp(1, e-bias)
}

// meets checks that v becomes n, and -v n with the sign.
func meets(t *testing.T, v float32, exponent, fraction, n int) {
	t.Helper()
	for _, minus := range []bool{false, true} {
		if minus {
			v, n = -v, n|1<<(exponent+fraction)
		}
		if got, e := num.Mini(v, exponent, fraction); got != n || e != api.OK {
			t.Errorf("Mini(%v (%08x), %d, %d): %x %d, want %x", v, math.Float32bits(v), exponent, fraction, got, e, n)
		}
	}
}

// means checks that n, and n with the sign, are read as v and -v.
func means(t *testing.T, n, exponent, fraction int, v float64) {
	t.Helper()
	got, e := num.FromMini(n, exponent, fraction)
	if e != api.OK {
		t.Errorf("FromMini(%x, %d, %d): error %d", n, exponent, fraction, e)
	}
	check(t, got, float32(v), "FromMini", n, exponent, fraction)
	got, e = num.FromMini(n|1<<(exponent+fraction), exponent, fraction)
	if e != api.OK {
		t.Errorf("FromMini(-%x, %d, %d): error %d", n, exponent, fraction, e)
	}
	check(t, got, float32(-v), "FromMini of minus", n, exponent, fraction)
}

func TestP9AllOfSmallFormats(t *testing.T) {
	for exponent := 2; exponent <= 8; exponent++ {
		for fraction := 1; fraction+exponent <= 11; fraction++ {
			infinite := (1<<exponent - 1) << fraction
			for n := range infinite {
				v := meaning(n, exponent, fraction)
				means(t, n, exponent, fraction, v)
				meets(t, float32(v), exponent, fraction, n)
				// Half way to the next one, which may be the one where infinity begins.
				half := float32(v + (meaning(n+1, exponent, fraction)-v)/2)
				meets(t, half, exponent, fraction, n+n&1)
				meets(t, num.Next(half, false), exponent, fraction, n)
				meets(t, num.Next(half, true), exponent, fraction, n+1)
			}
			means(t, infinite, exponent, fraction, math.Inf(1))
			meets(t, infinity(), exponent, fraction, infinite)
			meets(t, math.MaxFloat32, exponent, fraction, infinite)
			for n := infinite + 1; n < infinite+1<<fraction; n++ {
				means(t, n, exponent, fraction, math.NaN())
			}
		}
	}
}

func TestP9SomeOfWideFormats(t *testing.T) {
	m := mixer{}
	for exponent := 2; exponent <= 8; exponent++ {
		for fraction := 11; fraction <= 22; fraction++ {
			infinite := (1<<exponent - 1) << fraction
			list := []int{0, 1, 2, 1<<fraction - 1, 1 << fraction, infinite - 1, infinite - 2}
			for range 200 {
				list = append(list, int(m.next())%infinite)
			}
			for _, n := range list {
				v := meaning(n, exponent, fraction)
				means(t, n, exponent, fraction, v)
				meets(t, float32(v), exponent, fraction, n)
				half := float32(v + (meaning(n+1, exponent, fraction)-v)/2)
				meets(t, half, exponent, fraction, n+n&1)
				meets(t, num.Next(half, false), exponent, fraction, n)
				meets(t, num.Next(half, true), exponent, fraction, n+1)
			}
		}
	}
}

func TestP9FullFraction(t *testing.T) {
	m := mixer{}
	for exponent := 2; exponent <= 8; exponent++ {
		infinite := (1<<exponent - 1) << 23
		for range 500 {
			n := int(m.next()) % infinite
			v := meaning(n, exponent, 23)
			means(t, n, exponent, 23, v)
			meets(t, float32(v), exponent, 23, n)
		}
		meets(t, infinity(), exponent, 23, infinite)
	}
}

func TestP9SinglesAreSmallFloats(t *testing.T) {
	for _, v := range samples(2000) {
		b := int(clean(v))
		if n, e := num.Mini(v, 8, 23); n != b || e != api.OK {
			t.Errorf("Mini of %08x: %08x %d", b, n, e)
		}
		got, e := num.FromMini(int(math.Float32bits(v)), 8, 23)
		if e != api.OK {
			t.Errorf("FromMini of %08x: error %d", b, e)
		}
		check(t, got, v, "FromMini", b)
	}
}

func TestP9KnownSmallFloats(t *testing.T) {
	for _, c := range []struct {
		v                     float32
		exponent, fraction, n int
	}{
		{1, 5, 10, 0x3c00}, {65504, 5, 10, 0x7bff}, {65519.996, 5, 10, 0x7bff}, {65520, 5, 10, 0x7c00}, {1e30, 5, 10, 0x7c00},
		{0x1p-14, 5, 10, 0x0400}, {0x1p-24, 5, 10, 0x0001}, {0x1p-25, 5, 10, 0}, {0x1.000002p-25, 5, 10, 1}, {0x1.8p-24, 5, 10, 2},
		{1e-45, 5, 10, 0}, {0, 5, 10, 0}, {0, 8, 23, 0}, {0, 2, 1, 0}, {1, 8, 7, 0x3f80}, {math.MaxFloat32, 8, 7, 0x7f80},
		{0.5, 2, 1, 1}, {1, 2, 1, 2}, {3, 2, 1, 5}, {3.5, 2, 1, 6}, {0.25, 2, 1, 0}, {0.75, 2, 1, 2},
	} {
		meets(t, c.v, c.exponent, c.fraction, c.n)
	}
}

func TestP9NaN(t *testing.T) {
	for _, b := range []uint32{0x7f800001, 0x7fc00000, 0xff800001, 0xffffffff} {
		for _, c := range [][3]int{{5, 10, 0x7e00}, {8, 7, 0x7fc0}, {2, 1, 7}, {8, 23, nanBits}, {2, 23, 3<<23 | 1<<22}} {
			if n, e := num.Mini(single(b), c[0], c[1]); n != c[2] || e != api.OK {
				t.Errorf("Mini(%08x, %d, %d): %x %d", b, c[0], c[1], n, e)
			}
		}
	}
}

func TestP9Errors(t *testing.T) {
	for _, c := range [][2]int{
		{1, 10}, {9, 10}, {0, 10}, {-2, 10}, {5, 0}, {5, 24}, {5, -1}, {1, 0}, {9, 24}, {64, 1}, {2, 64},
		{math.MinInt, 10}, {math.MaxInt, 10}, {5, math.MinInt}, {5, math.MaxInt}, {math.MaxInt, math.MaxInt},
	} {
		for _, v := range []float32{0, 1, infinity(), single(nanBits)} {
			if n, e := num.Mini(v, c[0], c[1]); n != 0 || e != api.ErrRange {
				t.Errorf("Mini(%v, %d, %d): %d %d", v, c[0], c[1], n, e)
			}
		}
		if v, e := num.FromMini(1, c[0], c[1]); v != 0 || e != api.ErrRange {
			t.Errorf("FromMini(1, %d, %d): %v %d", c[0], c[1], v, e)
		}
	}
	for _, c := range [][3]int{
		{-1, 5, 10}, {1 << 16, 5, 10}, {16, 2, 1}, {-1, 2, 1}, {1 << 32, 8, 23}, {math.MinInt, 8, 23}, {math.MaxInt, 8, 23},
	} {
		if v, e := num.FromMini(c[0], c[1], c[2]); math.Float32bits(v) != 0 || e != api.ErrRange {
			t.Errorf("FromMini(%d, %d, %d): %v %d", c[0], c[1], c[2], v, e)
		}
	}
	for _, c := range [][3]int{{1<<16 - 1, 5, 10}, {15, 2, 1}, {1<<32 - 1, 8, 23}, {0, 2, 1}} {
		if _, e := num.FromMini(c[0], c[1], c[2]); e != api.OK {
			t.Errorf("FromMini(%d, %d, %d): error %d", c[0], c[1], c[2], e)
		}
	}
}
