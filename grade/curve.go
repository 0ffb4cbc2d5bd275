package grade

import (
	"math"
	"sort"

	"dyehouse/api"
	"dyehouse/num"
)

// How many points a curve, and how many places a table may have.
const (
	leastPoints = 2
	mostPoints  = 32
	leastPlaces = 2
	mostPlaces  = 4096
)

// CheckCurve is described in doc/04-grade.md.
func CheckCurve(c api.Curve) api.Errno {
	switch {
	case c.Kind != api.CurveLinear && c.Kind != api.CurveSmooth:
		return api.ErrKind
	case len(c.X) != len(c.Y) || len(c.X) < leastPoints || len(c.X) > mostPoints:
		return api.ErrForm
	case !areNumbers(c.X...) || !areNumbers(c.Y...):
		return api.ErrForm
	}
	for i, x := range c.X[1:] {
		if x <= c.X[i] {
			return api.ErrOrder
		}
	}
	return api.OK
}

// slopes is Slopes of a curve that has no error.
func slopes(c api.Curve) []float32 {
	last := len(c.X) - 1
	h, d := make([]float32, last), make([]float32, last)
	for i := range last {
		h[i] = c.X[i+1] - c.X[i]
		d[i] = (c.Y[i+1] - c.Y[i]) / h[i]
	}
	m := make([]float32, last+1)
	m[0], m[last] = num.Clean(d[0]), num.Clean(d[last-1])
	for i := 1; i < last; i++ {
		m[i] = num.Clean(slope(h[i-1], d[i-1], h[i], d[i]))
	}
	return m
}

// slope is that between two pieces of a curve.
func slope(h1, d1, h2, d2 float32) float32 {
	if !(d1 > 0 && d2 > 0 || d1 < 0 && d2 < 0) {
		return 0
	}
	w1 := float32(2*h2) + h1
	w2 := h2 + float32(2*h1)
	return (w1 + w2) / (w1/d1 + w2/d2)
}

// Slopes is described in doc/04-grade.md.
func Slopes(c api.Curve) ([]float32, api.Errno) {
	if e := CheckCurve(c); e != api.OK {
		return nil, e
	}
	return slopes(c), api.OK
}

// bending returns Bend of a curve that has no error.
func bending(c api.Curve) func(v float32) float32 {
	m, last := slopes(c), len(c.X)-1
	straight := func(i int, v float32) float32 { return c.Y[i] + float32((v-c.X[i])*m[i]) }
	return func(v float32) float32 {
		switch {
		case v != v:
			return num.Clean(v)
		case v <= c.X[0]:
			return num.Clean(straight(0, v))
		case v >= c.X[last]:
			return num.Clean(straight(last, v))
		}
		i := sort.Search(last, func(k int) bool { return v < c.X[k+1] })
		return num.Clean(between(c, m, i, v))
	}
}

// between is the value at v of a curve with the slopes m, in its piece i.
func between(c api.Curve, m []float32, i int, v float32) float32 {
	if v == c.X[i] {
		return c.Y[i]
	}
	h := c.X[i+1] - c.X[i]
	t := (v - c.X[i]) / h
	if c.Kind == api.CurveLinear {
		return c.Y[i] + float32((c.Y[i+1]-c.Y[i])*t)
	}
	return hermite(c.Y[i], float32(m[i]*h), c.Y[i+1], float32(m[i+1]*h), t)
}

// hermite goes from a to end, where t goes from 0 to 1, with the slopes first
// and last at the ends.
func hermite(a, first, end, last, t float32) float32 {
	u := 1 - t
	tt, uu := float32(t*t), float32(u*u)
	start := float32(float32(a*uu)*(1+float32(2*t))) + float32(float32(first*t)*uu)
	stop := float32(float32(end*tt)*(3-float32(2*t))) - float32(float32(last*tt)*u)
	return start + stop
}

// Bend is described in doc/04-grade.md.
func Bend(c api.Curve, v float32) (float32, api.Errno) {
	if e := CheckCurve(c); e != api.OK {
		return 0, e
	}
	return bending(c)(v), api.OK
}

// checkEnds is the error of the ends of a table.
func checkEnds(low, high float32) api.Errno {
	if !areNumbers(low, high) {
		return api.ErrForm
	}
	if low >= high {
		return api.ErrOrder
	}
	return api.OK
}

// Table is described in doc/04-grade.md.
func Table(c api.Curve, low, high float32, n int) ([]float32, api.Errno) {
	if e := CheckCurve(c); e != api.OK {
		return nil, e
	}
	if e := checkEnds(low, high); e != api.OK {
		return nil, e
	}
	if n < leastPlaces || n > mostPlaces {
		return nil, api.ErrRange
	}
	bend := bending(c)
	t := make([]float32, n)
	for k := range t {
		t[k] = bend(low + float32((high-low)*float32(k))/float32(n-1))
	}
	return t, api.OK
}

// Lookup is described in doc/04-grade.md.
func Lookup(t []float32, low, high, v float32) (float32, api.Errno) {
	if len(t) < leastPlaces || len(t) > mostPlaces {
		return 0, api.ErrRange
	}
	if e := checkEnds(low, high); e != api.OK {
		return 0, e
	}
	return looked(t, low, high, v), api.OK
}

// looked is Lookup without errors.
func looked(t []float32, low, high, v float32) float32 {
	last := len(t) - 1
	u := float32((v - low) / (high - low) * float32(last))
	switch {
	case v != v:
		return num.Clean(v)
	case !(u > 0):
		return num.Clean(t[0])
	case u >= float32(last):
		return num.Clean(t[last])
	}
	below := math.Floor(float64(u))
	i := int(below)
	return num.Lerp(t[i], t[i+1], u-float32(below))
}
