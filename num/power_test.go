package num_test

import (
	"math"
	"math/big"
	"testing"

	"dyehouse/num"
)

// The doubles of section 1.3, by numbers of 53 bits that are rounded at once
// by math/big, so that no compiler can fuse them. None of them is too small or
// too large for a double.

func double(v float64) *big.Float      { return new(big.Float).SetPrec(53).SetFloat64(v) }
func plus(a, b *big.Float) *big.Float  { return new(big.Float).SetPrec(53).Add(a, b) }
func minus(a, b *big.Float) *big.Float { return new(big.Float).SetPrec(53).Sub(a, b) }
func times(a, b *big.Float) *big.Float { return new(big.Float).SetPrec(53).Mul(a, b) }
func over(a, b *big.Float) *big.Float  { return new(big.Float).SetPrec(53).Quo(a, b) }

func decimal(text string) *big.Float {
	v, _, err := big.ParseFloat(text, 10, 53, big.ToNearestEven)
	if err != nil {
		panic(err)
	}
	return v
}

func ln2() *big.Float   { return decimal("0.693147180559945309417232") }
func root2() *big.Float { return decimal("1.41421356237309504880168872") }

func wantLogarithm(x float64) *big.Float {
	m, e := double(x), 0
	for m.Cmp(double(2)) >= 0 {
		m, e = times(m, double(0.5)), e+1
	}
	for m.Cmp(double(1)) < 0 {
		m, e = times(m, double(2)), e-1
	}
	if m.Cmp(root2()) > 0 {
		m, e = times(m, double(0.5)), e+1
	}
	s := over(minus(m, double(1)), plus(m, double(1)))
	q := times(s, s)
	p := over(double(1), double(21))
	for k := 19; k >= 1; k -= 2 {
		p = plus(times(p, q), over(double(1), double(float64(k))))
	}
	return plus(double(float64(e)), over(times(times(double(2), s), p), ln2()))
}

func wantExponential(d *big.Float) float64 {
	if d.Cmp(double(-200)) < 0 {
		return 0
	}
	if d.Cmp(double(200)) > 0 {
		return math.Ldexp(1, 200)
	}
	f, _ := plus(d, double(0.5)).Float64()
	k := math.Floor(f)
	r := times(minus(d, double(k)), ln2())
	p := double(1)
	for n := 14; n >= 1; n-- {
		p = plus(double(1), over(times(p, r), double(float64(n))))
	}
	v, _ := times(p, double(math.Ldexp(1, int(k)))).Float64()
	return v
}

func wantLog2(v float32) float32 {
	f, _ := wantLogarithm(float64(v)).Float64()
	return float32(f)
}

func wantLn(v float32) float32 {
	f, _ := times(wantLogarithm(float64(v)), ln2()).Float64()
	return float32(f)
}

func wantExp2(v float32) float32 { return float32(wantExponential(double(float64(v)))) }

func wantExp(v float32) float32 {
	return float32(wantExponential(over(double(float64(v)), ln2())))
}

func wantPower(v, p float32) float32 {
	return float32(wantExponential(times(wantLogarithm(float64(v)), double(float64(p)))))
}

func isNumber(v float32) bool { return v-v == 0 }

// exponents are the edges, and numbers for which exponentials are neither 0
// nor infinite; hard ones at last.
func exponents() []float32 {
	l := samples(300)
	m := mixer{}
	for range 3000 {
		l = append(l, (num.Unit(m.next())-0.5)*310)
		l = append(l, m.plain())
	}
	for _, b := range []uint32{
		0x428a94c5, 0xc16912cd, 0xc2b2e798, 0xbf81eadf, 0x3eaa23c4, 0x3eabeda0, 0xbeaa789c, // nearly between two singles
		0x3eef3013, 0x3ef9b1ec, 0xbee107fa,
		0x40315b33, 0xb3000000, 0xbbb70ee8, 0xbbf0edf1, // of which Floor(d) makes another one
		0xb338aa3b, 0xb466d4cb, 0xb4fdea14, 0xbae36f38, 0xbaec2b40,
		0x42ffffff, 0x43000000, 0xc3150000, 0xc3158000, 0xc3160000, 0xc315ffff, 0xc3160001,
		0x43480000, 0x43480001, 0xc3480000, 0xc3480001, 0x42b17218, 0x42b17217, 0xc2aeac50, 0xc2cff1b5,
	} {
		l = append(l, single(b))
	}
	return l
}

func TestP5P6Log2(t *testing.T) {
	for _, v := range append(samples(5000), hardLogarithms()...) {
		want := single(nanBits)
		switch {
		case v == 0:
			want = -infinity()
		case v > 0 && isNumber(v):
			want = wantLog2(v)
		case v > 0:
			want = infinity()
		}
		check(t, num.Log2(v), want, "Log2", v)
	}
	check(t, num.Log2(-infinity()), single(nanBits), "Log2 of -infinity")
	check(t, num.Log2(10), 3.321928, "Log2 of 10")
}

// hardLogarithms are close to 1 and to the root of 2, and others for which it
// matters that m is halved.
func hardLogarithms() []float32 {
	var l []float32
	for _, b := range []uint32{
		0x3f800000, 0x3f3504f3, 0x3fb504f3,
	} {
		for i := -20; i <= 20; i++ {
			l = append(l, single(b+uint32(i)))
		}
	}
	for _, b := range []uint32{
		0x28763c69, 0x3d6a7d8c, 0x3df8c463, 0x3e6fc3b1, 0x3e748809,
		0x387fc006, 0x3c7e7708, 0x3cfe7708, 0x3d7e7708, 0x3de485eb,
		0x3c413d3a, 0x3c36f24a, 0x3cb6c5f1, 0x082f18e1, 0x0832ae76, 0x1034c7e5, // nearly between two singles
		0x3fb4dbe5, 0x3034299e, 0x382d9642, 0x3c34870f, 0x203172bf, 0x2032e8ff,
	} {
		l = append(l, single(b))
	}
	return l
}

func TestP5P6Exp2(t *testing.T) {
	for _, v := range exponents() {
		want := single(nanBits)
		switch {
		case v == infinity():
			want = v
		case v == -infinity():
			want = 0
		case v == v:
			want = wantExp2(v)
		}
		check(t, num.Exp2(v), want, "Exp2", v)
	}
	check(t, num.Exp2(0.5), 1.4142135, "Exp2 of 0.5")
	check(t, num.Exp2(-150), 0, "Exp2 of -150")
	check(t, num.Exp2(-149.5), single(1), "Exp2 of -149.5")
	check(t, num.Exp2(128), infinity(), "Exp2 of 128")
}

func TestP8Exp(t *testing.T) {
	for _, v := range exponents() {
		want := single(nanBits)
		switch {
		case v == infinity():
			want = v
		case v == -infinity():
			want = 0
		case v == v:
			want = wantExp(v)
		}
		check(t, num.Exp(v), want, "Exp", v)
	}
	check(t, num.Exp(1), 2.7182817, "Exp of 1")
	check(t, num.Exp(0), 1, "Exp of 0")
	check(t, num.Exp(single(0x80000000)), 1, "Exp of -0")
}

func TestP8Ln(t *testing.T) {
	for _, v := range append(samples(5000), hardLogarithms()...) {
		want := single(nanBits)
		switch {
		case v == 0:
			want = -infinity()
		case v > 0 && isNumber(v):
			want = wantLn(v)
		case v > 0:
			want = infinity()
		}
		check(t, num.Ln(v), want, "Ln", v)
	}
	check(t, num.Ln(10), 2.3025851, "Ln of 10")
	check(t, num.Ln(1), 0, "Ln of 1")
}

func TestP7PowerExceptions(t *testing.T) {
	nan, zero, inf := single(0xffc00001), single(0x80000000), infinity()
	small := single(1)
	for _, c := range [][3]float32{
		{nan, 0, nan}, {nan, 1, nan}, {1, nan, nan}, {nan, nan, nan}, {0, nan, nan}, {inf, nan, nan}, {single(0x7f800001), 2, nan},
		{5, 0, 1}, {5, zero, 1}, {0, 0, 1}, {zero, 0, 1}, {inf, 0, 1}, {-5, 0, 1}, {-inf, 0, 1}, {-inf, zero, 1},
		{1, 7, 1}, {1, -7, 1}, {1, inf, 1}, {1, -inf, 1},
		{-1, 2, nan}, {-5, 1, nan}, {-small, 1, nan}, {-inf, 2, nan}, {-2, inf, nan}, {-0.5, -inf, nan}, {-inf, inf, nan},
		{0, 2, 0}, {zero, 2, 0}, {zero, 1, 0}, {zero, 3, 0}, {0, inf, 0}, {0, small, 0},
		{0, -1, inf}, {zero, -1, inf}, {zero, -3, inf}, {0, -inf, inf}, {0, -small, inf},
		{inf, 2, inf}, {inf, small, inf}, {inf, inf, inf}, {inf, -2, 0}, {inf, -small, 0}, {inf, -inf, 0},
		{2, inf, inf}, {0.5, inf, 0}, {2, -inf, 0}, {0.5, -inf, inf}, {small, inf, 0}, {small, -inf, inf},
		{num.Next(1, true), inf, inf}, {num.Next(1, false), inf, 0}, {num.Next(1, true), -inf, 0}, {num.Next(1, false), -inf, inf},
		{3, 1, 3}, {small, 1, small}, {math.MaxFloat32, 1, math.MaxFloat32}, {0.1, 1, 0.1},
	} {
		check(t, num.Power(c[0], c[1]), c[2], "Power", c[0], c[1])
	}
}

func TestP7Power(t *testing.T) {
	pairs := [][2]float32{
		{4, 0.5}, {2, 3}, {3, 5}, {10, 10}, {10, -10}, {7, 45}, {0.1, 2}, {0.1, -2}, {2, 127}, {2, 128}, {2, -149}, {2, -150},
		{2, 3e38}, {2, -3e38}, {0.5, 3e38}, {0.5, -3e38}, {num.Next(1, true), 1e9}, {num.Next(1, false), 1e9}, {1e-45, 0.5}, {1e-45, -0.5},
		{3e38, 1e-45}, {3e38, 1e-3}, {2, single(1)}, {2, -1},
	}
	for _, b := range [][2]uint32{ // nearly between two singles
		{0x1cde3a33, 0x3f74d7b4}, {0x25986a03, 0x3fb08f5f}, {0x5510ea19, 0x3fa3216a},
		{0x590cc8dd, 0x3f22769a}, {0x6bfa3e2f, 0xbf8d5d79}, {0x6d9c47db, 0x3f80e069},
	} {
		pairs = append(pairs, [2]float32{single(b[0]), single(b[1])})
	}
	m := mixer{}
	for range 2000 {
		v := single(m.next() % 0x7f800000)
		pairs = append(pairs, [2]float32{v, (num.Unit(m.next()) - 0.5) * 320 / num.Log2(v)})
	}
	for _, c := range pairs {
		if v, p := c[0], c[1]; v > 0 && isNumber(p) && v != 1 && p != 0 && p != 1 {
			check(t, num.Power(v, p), wantPower(v, p), "Power", v, p)
		}
	}
	check(t, num.Power(2, 3), 8, "2 to 3")
	check(t, num.Power(4, 0.5), 2, "4 to 0.5")
	check(t, num.Power(10, 10), 1e10, "10 to 10")
}

func TestP8PowersOfTwo(t *testing.T) {
	for e := -149; e <= 127; e++ {
		power := float32(math.Ldexp(1, e))
		check(t, num.Exp2(float32(e)), power, "Exp2", e)
		check(t, num.Log2(power), float32(e), "Log2 of 2 to", e)
	}
}

func TestP8WhatFollows(t *testing.T) {
	m := mixer{}
	for range 20000 {
		v := single((7+m.next()%240)<<23 | m.next()>>9)
		back := float64(num.Exp2(num.Log2(v)))
		if math.Abs(back-float64(v)) > float64(v)*0x1p-16 {
			t.Errorf("Exp2 of Log2 of %v: %v", v, back)
		}
		check(t, num.Power(v, 1), v, "Power to 1", v)
		square := v * v
		if square >= 0x1p-126 && isNumber(square) && math.Abs(float64(num.Power(v, 2))-float64(square)) > float64(square)*0x1p-22 {
			t.Errorf("Power(%v, 2): %v, want about %v", v, num.Power(v, 2), square)
		}
	}
}
