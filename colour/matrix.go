package colour

import (
	"math"

	"dyehouse/api"
)

// row returns the row i of m.
func row(m api.Matrix, i int) [3]float64 { return [3]float64{m[3*i], m[3*i+1], m[3*i+2]} }

// column returns the column i of m.
func column(m api.Matrix, i int) [3]float64 { return [3]float64{m[i], m[i+3], m[i+6]} }

// inner is the sum, in order, of the products of a and b. Here and in all of
// the package, conversions keep products from being fused with sums.
func inner(a, b [3]float64) float64 {
	return float64(a[0]*b[0]) + float64(a[1]*b[1]) + float64(a[2]*b[2])
}

// transform is m times v.
func transform(m api.Matrix, v [3]float64) [3]float64 {
	return [3]float64{inner(row(m, 0), v), inner(row(m, 1), v), inner(row(m, 2), v)}
}

// cleanDouble is for doubles what num.Clean is for singles: machines differ in
// the NaNs that they make.
func cleanDouble(v float64) float64 {
	if v != v {
		return float64(theNaN())
	}
	return v
}

// isFinite says whether v is neither a NaN nor an infinity.
func isFinite(v float64) bool { return math.Abs(v) <= math.MaxFloat64 }

// allFinite says whether no element of m is a NaN or an infinity.
func allFinite(m api.Matrix) bool {
	for _, v := range m {
		if !isFinite(v) {
			return false
		}
	}
	return true
}

// Multiply is described in doc/03-colour.md.
func Multiply(a, b api.Matrix) api.Matrix {
	var m api.Matrix
	for i := range m {
		m[i] = cleanDouble(inner(row(a, i/3), column(b, i%3)))
	}
	return m
}

// Inverse is described in doc/03-colour.md.
func Inverse(m api.Matrix) (api.Matrix, api.Errno) {
	if !allFinite(m) {
		return api.Matrix{}, api.ErrForm
	}
	minor := func(i, j, k, l int) float64 { return float64(m[i]*m[j]) - float64(m[k]*m[l]) }
	n := api.Matrix{
		minor(4, 8, 5, 7), minor(2, 7, 1, 8), minor(1, 5, 2, 4),
		minor(5, 6, 3, 8), minor(0, 8, 2, 6), minor(2, 3, 0, 5),
		minor(3, 7, 4, 6), minor(1, 6, 0, 7), minor(0, 4, 1, 3),
	}
	det := inner(row(m, 0), column(n, 0))
	if det == 0 || !isFinite(det) {
		return api.Matrix{}, api.ErrRange
	}
	for i := range n {
		n[i] /= det
	}
	if !allFinite(n) {
		return api.Matrix{}, api.ErrRange
	}
	return n, api.OK
}

// Apply is described in doc/03-colour.md.
func Apply(m api.Matrix, p api.Pixel) api.Pixel {
	v := transform(m, [3]float64{float64(p[0]), float64(p[1]), float64(p[2])})
	return cleaned(api.Pixel{float32(v[0]), float32(v[1]), float32(v[2]), p[3]})
}
