package scope

import (
	"math"
	"math/bits"
	"slices"

	"dyehouse/api"
	"dyehouse/frame"
	"dyehouse/num"
)

// stepCounts are those of all powers of two that singles can be apart, and one of
// NaNs.
const stepCounts = 34

// checkBoth is the error of two frames that are held against each other.
func checkBoth(a, b api.Frame) api.Errno {
	for _, f := range [...]api.Frame{a, b} {
		if e := frame.Check(f); e != api.OK {
			return e
		}
	}
	if a.Region != b.Region {
		return api.ErrPlace
	}
	return api.OK
}

func isSame(v, w float32) bool { return num.Bits(v) == num.Bits(w) }

// difference is that of two singles.
func difference(v, w float32) float32 {
	if isSame(v, w) {
		return 0
	}
	return num.Clean(magnitude(v - w))
}

// differences are those of all singles of two frames.
func differences(a, b api.Frame) ([]float32, api.Errno) {
	if e := checkBoth(a, b); e != api.OK {
		return nil, e
	}
	l := make([]float32, len(a.V))
	for i, v := range a.V {
		l[i] = difference(v, b.V[i])
	}
	return l, api.OK
}

// pointOf is the place of the pixel with a number in a region.
func pointOf(r api.Region, pixel int) api.Point {
	return api.Point{X: r.X + pixel%r.W, Y: r.Y + pixel/r.W}
}

// Peak is described in doc/08-scope.md.
func Peak(a, b api.Frame) (float32, api.Point, api.Errno) {
	l, e := differences(a, b)
	if e != api.OK {
		return 0, api.Point{}, e
	}
	greatest := 0
	for i, d := range l {
		if inOrder(d, l[greatest]) > 0 {
			greatest = i
		}
	}
	return l[greatest], pointOf(a.Region, greatest/channels), api.OK
}

// Mean is described in doc/08-scope.md.
func Mean(a, b api.Frame) (float32, api.Errno) {
	l, e := differences(a, b)
	if e != api.OK {
		return 0, e
	}
	return num.Mean(l)
}

// Noise is described in doc/08-scope.md.
func Noise(a, b api.Frame, peak float32) (float32, api.Errno) {
	l, e := differences(a, b)
	switch {
	case e != api.OK:
		return 0, e
	case !areNumbers(peak):
		return 0, api.ErrForm
	case peak <= 0:
		return 0, api.ErrRange
	}
	for i, d := range l {
		l[i] = d * d
	}
	m, _ := num.Mean(l)
	if m == 0 {
		return float32(math.Inf(1)), api.OK
	}
	return num.Clean(10 * (num.Log2(peak*peak/m) / num.Log2(10))), api.OK
}

// Steps is described in doc/08-scope.md.
func Steps(a, b api.Frame) ([]int, api.Errno) {
	if e := checkBoth(a, b); e != api.OK {
		return nil, e
	}
	l := make([]int, stepCounts)
	for i, v := range a.V {
		l[stepOf(v, b.V[i])]++
	}
	return l, api.OK
}

// stepOf is the number of the count to which two singles belong.
func stepOf(v, w float32) int {
	n, both := num.Apart(v, w)
	switch {
	case both:
		return bits.Len(uint(max(n, -n)))
	case isSame(v, w):
		return 0
	}
	return stepCounts - 1
}

// Changed is described in doc/08-scope.md.
func Changed(a, b api.Frame) (api.Region, int, api.Errno) {
	if e := checkBoth(a, b); e != api.OK {
		return api.Region{}, 0, e
	}
	var changed api.Region
	many := 0
	for i := 0; i < len(a.V); i += channels {
		if !slices.EqualFunc(a.V[i:i+channels], b.V[i:i+channels], isSame) {
			changed = extended(changed, pointOf(a.Region, i/channels))
			many++
		}
	}
	return changed, many, api.OK
}

// extended is the least region that has the pixels of r, if it has any, and p.
func extended(r api.Region, p api.Point) api.Region {
	if r.W == 0 {
		return api.Region{X: p.X, Y: p.Y, W: 1, H: 1}
	}
	left, top := min(r.X, p.X), min(r.Y, p.Y)
	right, bottom := max(r.X+r.W, p.X+1), max(r.Y+r.H, p.Y+1)
	return api.Region{X: left, Y: top, W: right - left, H: bottom - top}
}

// Match is described in doc/08-scope.md.
func Match(a, b api.Frame) ([3]float32, [3]float32, api.Errno) {
	var factors, offsets [colours]float32
	if e := checkBoth(a, b); e != api.OK {
		return factors, offsets, e
	}
	for channel := range colours {
		from, spreadFrom := spread(a, channel)
		to, spreadTo := spread(b, channel)
		factor := float32(1)
		if spreadFrom != 0 {
			factor = num.Clean(spreadTo / spreadFrom)
		}
		factors[channel] = factor
		// The conversion keeps the product from being fused with the difference.
		offsets[channel] = num.Clean(to - float32(from*factor))
	}
	return factors, offsets, api.OK
}

// spread returns the mean of a channel of f, which has no error, and how far from
// it the values are in the mean.
func spread(f api.Frame, channel int) (float32, float32) {
	l, _ := frame.Plane(f, channel)
	mean, _ := num.Mean(l)
	for i, v := range l {
		l[i] = magnitude(v - mean)
	}
	far, _ := num.Mean(l)
	return mean, far
}
