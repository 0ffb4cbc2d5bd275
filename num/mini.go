package num

import (
	"math"

	"dyehouse/api"
)

// format is that of small floats.
type format struct{ exponent, fraction int }

// good says whether exponent and fraction are within their bounds.
func (f format) good() bool {
	return f.exponent >= 2 && f.exponent <= 8 && f.fraction >= 1 && f.fraction <= 23
}

// infinity is the small float with all exponent bits alone.
func (f format) infinity() int { return (1<<f.exponent - 1) << f.fraction }

// sign is the small float with the sign alone.
func (f format) sign() int { return 1 << (f.exponent + f.fraction) }

// lowest is the exponent of the least normal number, and of the subnormal ones.
func (f format) lowest() int { return 2 - 1<<(f.exponent-1) }

// pack returns the small float that is nearest to m, a finite number not below 0.
func (f format) pack(m float64) int {
	if m == 0 {
		return 0
	}
	_, e := math.Frexp(m)
	e = max(e-1, f.lowest())
	n := int(math.RoundToEven(math.Ldexp(m, f.fraction-e)))
	// The leading bit of n adds the one by which the exponent bits of normal
	// numbers are above those of subnormal ones; so does a carry.
	return min(n+(e-f.lowest())<<f.fraction, f.infinity())
}

// unpack returns what n means, which has no sign and is below infinity.
func (f format) unpack(n int) float64 {
	e, m := n>>f.fraction, n&(1<<f.fraction-1)
	if e > 0 {
		e--
		m += 1 << f.fraction
	}
	return math.Ldexp(float64(m), e+f.lowest()-f.fraction)
}

// Mini is described in doc/01-num.md.
func Mini(v float32, exponent, fraction int) (int, api.Errno) {
	f := format{exponent, fraction}
	if !f.good() {
		return 0, api.ErrRange
	}
	if v != v {
		return f.infinity() | 1<<(fraction-1), api.OK
	}
	n := f.infinity()
	if m := math.Abs(float64(v)); m <= math.MaxFloat32 {
		n = f.pack(m)
	}
	if math.Signbit(float64(v)) {
		n |= f.sign()
	}
	return n, api.OK
}

// FromMini is described in doc/01-num.md.
func FromMini(n, exponent, fraction int) (float32, api.Errno) {
	f := format{exponent, fraction}
	if !f.good() || n < 0 || n >= 2*f.sign() {
		return 0, api.ErrRange
	}
	m := n &^ f.sign()
	v := math.Inf(1)
	switch {
	case m > f.infinity():
		return FromBits(theNaN), api.OK
	case m < f.infinity():
		v = f.unpack(m)
	}
	if n != m {
		v = -v
	}
	return float32(v), api.OK
}
