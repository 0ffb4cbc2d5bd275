package colour_test

import (
	"math"
	"testing"

	"dyehouse/api"
	"dyehouse/colour"
)

// wantInner is the sum, in order, of three products.
func wantInner(a, b [3]float64) float64 {
	return plus(plus(times(a[0], b[0]), times(a[1], b[1])), times(a[2], b[2]))
}

func wantMultiply(a, b api.Matrix) api.Matrix {
	var m api.Matrix
	for i := range 3 {
		for k := range 3 {
			m[3*i+k] = wantInner([3]float64{a[3*i], a[3*i+1], a[3*i+2]}, [3]float64{b[k], b[3+k], b[6+k]})
		}
	}
	return m
}

func wantTransform(m api.Matrix, v [3]float64) [3]float64 {
	var l [3]float64
	for i := range l {
		l[i] = wantInner([3]float64{m[3*i], m[3*i+1], m[3*i+2]}, v)
	}
	return l
}

func wantApply(m api.Matrix, p api.Pixel) api.Pixel {
	v := wantTransform(m, [3]float64{float64(p[0]), float64(p[1]), float64(p[2])})
	return api.Pixel{float32(v[0]), float32(v[1]), float32(v[2]), p[3]}
}

// wantInverse is the inverse of a matrix that has one.
func wantInverse(m api.Matrix) api.Matrix {
	a, b, c, d, e, f, g, h, i := m[0], m[1], m[2], m[3], m[4], m[5], m[6], m[7], m[8]
	A := minus(times(e, i), times(f, h))
	B := minus(times(f, g), times(d, i))
	C := minus(times(d, h), times(e, g))
	det := plus(plus(times(a, A), times(b, B)), times(c, C))
	n := api.Matrix{
		A, minus(times(c, h), times(b, i)), minus(times(b, f), times(c, e)),
		B, minus(times(a, i), times(c, g)), minus(times(c, d), times(a, f)),
		C, minus(times(b, g), times(a, h)), minus(times(a, e), times(b, d)),
	}
	for k := range n {
		n[k] = over(n[k], det)
	}
	return n
}

func diagonal(a, b, c float64) api.Matrix { return api.Matrix{a, 0, 0, 0, b, 0, 0, 0, c} }

func TestP45Multiply(t *testing.T) {
	m := mixer{}
	for range 500 {
		a, b := m.matrix(), m.matrix()
		checkMatrix(t, colour.Multiply(a, b), api.OK, wantMultiply(a, b), "Multiply", a, b)
	}
	a, b := api.Matrix{1, 2, 3, 4, 5, 6, 7, 8, 9}, api.Matrix{9, 8, 7, 6, 5, 4, 3, 2, -1}
	checkMatrix(t, colour.Multiply(a, b), api.OK, api.Matrix{30, 24, 12, 84, 69, 42, 138, 114, 72}, "Multiply")
	a = api.Matrix{1e16, 1, 1e16, 1, 1e16, 1e16, 1e16, 1e16, 1}
	b = api.Matrix{1, 1, 1, 1, 1, 1, -1, -1, -1}
	checkMatrix(t, colour.Multiply(a, b), api.OK, api.Matrix{0, 0, 0, 0, 0, 0, 2e16, 2e16, 2e16}, "Multiply in order")
}

func TestP45MultiplyOfOddDoubles(t *testing.T) {
	zero, inf, nan := math.Copysign(0, -1), math.Inf(1), math.Float64frombits(0xfff8000000000123)
	// The NaN that is a double.
	theNaN := math.Float64frombits(0x7ff8000000000000)
	const least = math.SmallestNonzeroFloat64
	one := api.Matrix{1, 1, 1, 1, 1, 1, 1, 1, 1}
	for _, c := range []struct{ row, want float64 }{{zero, zero}, {0, 0}, {least, 3 * least}, {inf, inf}, {-inf, -inf}, {nan, theNaN}, {1e308, inf}} {
		m := api.Matrix{1, 1, 1, c.row, c.row, c.row, 2, 2, 2}
		checkMatrix(t, colour.Multiply(m, one), api.OK, api.Matrix{3, 3, 3, c.want, c.want, c.want, 6, 6, 6}, "Multiply", c.row)
	}
	m := colour.Multiply(diagonal(inf, 1, 1), diagonal(1, inf, -inf))
	checkMatrix(t, m, api.OK, api.Matrix{inf, theNaN, theNaN, 0, inf, theNaN, 0, theNaN, -inf}, "infinities times 0")
}

func TestP45Apply(t *testing.T) {
	m := mixer{}
	for range 2000 {
		a, p := m.matrix(), pixel(m.plain)
		checkPixel(t, colour.Apply(a, p), wantApply(a, p), "Apply", a, p)
		p = pixel(m.wild)
		checkPixel(t, colour.Apply(a, p), wantApply(a, p), "Apply", a, p)
	}
	zero, inf, nan := minusZero(), infinity(), oddNaN()
	ones, id := api.Matrix{1, 1, 1, 1, 1, 1, 1, 1, 1}, diagonal(1, 1, 1)
	for _, c := range []struct {
		m       api.Matrix
		p, want api.Pixel
	}{
		{api.Matrix{1, 2, 3, 4, 5, 6, 7, 8, 9}, api.Pixel{1, 10, 100, 1000}, api.Pixel{321, 654, 987, 1000}},
		{ones, api.Pixel{1e8, 1, -1e8, zero}, api.Pixel{1, 1, 1, zero}}, // singles would lose the 1
		{ones, api.Pixel{zero, zero, zero, zero}, api.Pixel{zero, zero, zero, zero}},
		{id, api.Pixel{1, 2, 3, nan}, api.Pixel{1, 2, 3, nan}},
		{id, api.Pixel{zero, 1, 1, inf}, api.Pixel{0, 1, 1, inf}},
		{id, api.Pixel{inf, 1, 1, -inf}, api.Pixel{inf, nan, nan, -inf}},
		{id, api.Pixel{single(1), single(0x80000001), single(0x007fffff), single(1)}, api.Pixel{single(1), single(0x80000001), single(0x007fffff), single(1)}},
		{diagonal(2, 0.5, 1e-50), api.Pixel{math.MaxFloat32, single(1), 1, 1}, api.Pixel{inf, 0, 0, 1}},
		{diagonal(-2, 0.5, -1e-50), api.Pixel{math.MaxFloat32, single(3), 1, 1}, api.Pixel{-inf, single(2), zero, 1}},
		{diagonal(math.NaN(), 1e300, math.Inf(-1)), api.Pixel{1, 1, 1, 1}, api.Pixel{nan, inf, -inf, 1}},
	} {
		checkPixel(t, colour.Apply(c.m, c.p), c.want, "Apply", c.m, c.p)
	}
}

func TestP46Inverse(t *testing.T) {
	m := mixer{}
	for range 500 {
		a := m.matrix()
		n, e := colour.Inverse(a)
		checkMatrix(t, n, e, wantInverse(a), "Inverse", a)
	}
	n, e := colour.Inverse(api.Matrix{1, 2, 3, 0, 1, 4, 5, 6, 0})
	checkMatrix(t, n, e, api.Matrix{-24, 18, 5, 20, -15, -4, -5, 4, 1}, "Inverse")
	for _, a := range []api.Matrix{
		diagonal(2, -4, 8), diagonal(-2, 4, 8), diagonal(3, 1, 1),
		diagonal(1e308, 1, 1),           // a subnormal element
		diagonal(1e-160, 1e-160, 1e160), // a subnormal product
		diagonal(1e-308, 1, 1),
	} {
		n, e := colour.Inverse(a)
		checkMatrix(t, n, e, wantInverse(a), "Inverse", a)
	}
}

func TestP46InverseErrors(t *testing.T) {
	nan, inf := math.NaN(), math.Inf(1)
	for i := range 9 {
		for _, v := range []float64{nan, inf, -inf} {
			for _, m := range []api.Matrix{{}, diagonal(1, 1, 1), diagonal(1e200, 1e200, 1e200)} {
				m[i] = v
				n, e := colour.Inverse(m)
				refused(t, n, e, api.ErrForm, "Inverse", m)
			}
		}
	}
	for _, m := range []api.Matrix{
		{},
		diagonal(1, 1, 0),
		diagonal(1, 1, math.Copysign(0, -1)),
		{1, 2, 3, 4, 5, 6, 7, 8, 9},
		{1, 2, 3, 1, 2, 3, 0, 0, 1},
		diagonal(1e-200, 1e-200, 1),                      // the determinant is too small
		diagonal(1e150, 1e150, 1e150),                    // it is infinite, no element would be
		diagonal(1e200, 1e200, 1e200),                    // both are
		{1e200, 1, 1, 1, 1e200, 1e200, 1, 1e200, 1e200},  // it is a NaN
		{1, 0, 0, 0, 1e200, 1e200, 0, 1e200, 1e200},      // so is A
		diagonal(1e-320, 1, 1),                           // an element is infinite
		{0, 1e200, 2e200, 1e-200, 0, 0, 0, 1e200, 1e200}, // an element is a NaN, the determinant is not
		{1, 1e200, 0, 0, 1, 1e200, 0, 0, 1},              // b * f is infinite
	} {
		n, e := colour.Inverse(m)
		refused(t, n, e, api.ErrRange, "Inverse", m)
	}
}
