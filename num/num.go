// Package num is described in doc/01-num.md.
package num

import (
	"math"

	"dyehouse/api"
)

// Bits of singles, and the greatest bound of Near.
const (
	theNaN    = 0x7fc00000
	infinite  = 0x7f800000
	normal    = 0x00800000
	magnitude = 0x7fffffff
	nearBound = 1 << 24
)

// Clean is described in doc/01-num.md.
func Clean(v float32) float32 {
	if v != v {
		return math.Float32frombits(theNaN)
	}
	return v
}

// Bits is described in doc/01-num.md.
func Bits(v float32) uint32 { return math.Float32bits(Clean(v)) }

// FromBits is described in doc/01-num.md.
func FromBits(b uint32) float32 { return Clean(math.Float32frombits(b)) }

// Kind is described in doc/01-num.md.
func Kind(v float32) int {
	b := math.Float32bits(v) & magnitude
	switch {
	case b == 0:
		return api.KindZero
	case b < normal:
		return api.KindSmall
	case b < infinite:
		return api.KindNormal
	case b == infinite:
		return api.KindInfinite
	}
	return api.KindNaN
}

// place is where v stands in the order: 0 is at 0, -0 at -1. The NaN stands
// behind infinity.
func place(v float32) int {
	b := int(Bits(v))
	if b > magnitude {
		return -1 - b&magnitude
	}
	return b
}

// atPlace returns the single with that place.
func atPlace(n int) float32 {
	if n < 0 {
		return -math.Float32frombits(uint32(-1 - n))
	}
	return math.Float32frombits(uint32(n))
}

// Next is described in doc/01-num.md.
func Next(v float32, up bool) float32 {
	n := place(v)
	switch {
	case v != v:
		return Clean(v)
	case up && n < infinite:
		return atPlace(n + 1)
	case !up && n > -1-infinite:
		return atPlace(n - 1)
	}
	return v
}

// Apart is described in doc/01-num.md.
func Apart(a, b float32) (int, bool) {
	if a != a || b != b {
		return 0, false
	}
	return place(b) - place(a), true
}

// Near is described in doc/01-num.md.
func Near(v float32, low, high int) (int, bool, api.Errno) {
	if low > high || low < -nearBound || high > nearBound {
		return 0, false, api.ErrOrder
	}
	n := math.RoundToEven(float64(v))
	switch {
	case n != n || n < float64(low):
		return low, false, api.OK
	case n > float64(high):
		return high, false, api.OK
	}
	return int(n), true, api.OK
}

// Limit is described in doc/01-num.md.
func Limit(v, low, high float32) float32 {
	if v < low {
		return low
	}
	if v > high {
		return high
	}
	return Clean(v)
}

// Lerp is described in doc/01-num.md.
func Lerp(a, b, t float32) float32 {
	switch t {
	case 0:
		return Clean(a)
	case 1:
		return Clean(b)
	}
	// The conversions keep the product from being fused with the sum.
	return Clean(a + float32(float32(b-a)*t))
}

// Smooth is described in doc/01-num.md.
func Smooth(t float32) float32 {
	s := Limit(t, 0, 1)
	return Clean(float32(s*s) * float32(3-float32(2*s)))
}
