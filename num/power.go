package num

import "math"

// logarithm is the double logarithm of a finite x above 0. Here and below,
// conversions keep products from being fused with sums.
func logarithm(x float64) float64 {
	half, e := math.Frexp(x)
	m := half * 2
	e--
	if m > math.Sqrt2 {
		m *= 0.5
		e++
	}
	s := float64(m-1) / float64(m+1)
	q := float64(s * s)
	p := 1.0 / 21
	for k := 19; k >= 1; k -= 2 {
		p = float64(p*q) + float64(1/float64(k))
	}
	return float64(e) + float64(float64(float64(2*s)*p)/math.Ln2)
}

// exponential is the double exponential of d, which is not a NaN.
func exponential(d float64) float64 {
	if d < -200 {
		return 0
	}
	if d > 200 {
		return math.Ldexp(1, 200)
	}
	k := math.Floor(d + 0.5)
	r := float64(float64(d-k) * math.Ln2)
	p := 1.0
	for n := 14; n >= 1; n-- {
		p = 1 + float64(float64(p*r)/float64(n))
	}
	return math.Ldexp(p, int(k))
}

// logged is f of v, or what logarithms have in its place where v is not a
// number above 0.
func logged(v float32, f func(float64) float64) float32 {
	switch {
	case v == 0:
		return float32(math.Inf(-1))
	case v > 0 && v <= math.MaxFloat32:
		return float32(f(float64(v)))
	case v > 0:
		return v
	}
	return FromBits(theNaN)
}

// raised is f of v, or what exponentials have in its place where v is not a
// number.
func raised(v float32, f func(float64) float64) float32 {
	switch {
	case v != v:
		return Clean(v)
	case v > math.MaxFloat32:
		return v
	case v < -math.MaxFloat32:
		return 0
	}
	return float32(f(float64(v)))
}

// Log2 is described in doc/01-num.md.
func Log2(v float32) float32 { return logged(v, logarithm) }

// Exp2 is described in doc/01-num.md.
func Exp2(v float32) float32 { return raised(v, exponential) }

// Ln is described in doc/01-num.md.
func Ln(v float32) float32 {
	return logged(v, func(x float64) float64 { return float64(logarithm(x) * math.Ln2) })
}

// Exp is described in doc/01-num.md.
func Exp(v float32) float32 {
	return raised(v, func(d float64) float64 { return exponential(d / math.Ln2) })
}

// Power is described in doc/01-num.md.
func Power(v, p float32) float32 {
	if v != v || p != p {
		return Clean(v + p)
	}
	if p == 0 || v == 1 {
		return 1
	}
	if v < 0 {
		return FromBits(theNaN)
	}
	infinity := float32(math.Inf(1))
	switch {
	case v == 0:
		return either(p > 0, 0, infinity)
	case v == infinity:
		return either(p > 0, infinity, 0)
	case p == infinity || p == -infinity:
		return either((p > 0) == (v > 1), infinity, 0)
	case p == 1:
		return v
	}
	return float32(exponential(float64(logarithm(float64(v)) * float64(p))))
}

// either returns a if it is so, otherwise b.
func either(so bool, a, b float32) float32 {
	if so {
		return a
	}
	return b
}
