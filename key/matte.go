package key

import (
	"slices"

	"dyehouse/api"
	"dyehouse/frame"
	"dyehouse/num"
)

// CheckMatte is described in doc/06-key.md.
func CheckMatte(m api.Matte) api.Errno {
	if e := frame.CheckRegion(m.Region); e != api.OK {
		return e
	}
	if len(m.V) != m.W*m.H {
		return api.ErrForm
	}
	return api.OK
}

// Invert is described in doc/06-key.md.
func Invert(m api.Matte) (api.Matte, api.Errno) {
	if e := CheckMatte(m); e != api.OK {
		return api.Matte{}, e
	}
	inverse := api.Matte{Region: m.Region, V: make([]float32, len(m.V))}
	for i, v := range m.V {
		inverse.V[i] = num.Clean(1 - v)
	}
	return inverse, api.OK
}

// operations are those of frame.Combine for the ways in which mattes meet.
func operations() []int {
	return []int{
		api.MeetLess:   api.OpLess,
		api.MeetMore:   api.OpMore,
		api.MeetMul:    api.OpMul,
		api.MeetScreen: api.OpScreen,
	}
}

// Meet is described in doc/06-key.md.
func Meet(op int, a, b api.Matte) (api.Matte, api.Errno) {
	for _, m := range [...]api.Matte{a, b} {
		if e := CheckMatte(m); e != api.OK {
			return api.Matte{}, e
		}
	}
	if op < api.MeetLess || op > api.MeetScreen {
		return api.Matte{}, api.ErrKind
	}
	met, e := frame.Combine(operations()[op], inAll(a), inAll(b))
	if e != api.OK {
		return api.Matte{}, e
	}
	v, _ := frame.Plane(met, 0)
	return api.Matte{Region: met.Region, V: v}, api.OK
}

// inAll returns a frame that has m, which has no error, in all channels.
func inAll(m api.Matte) api.Frame {
	f, _ := frame.FromPlanes(m.Region, [channels][]float32{m.V, m.V, m.V, m.V})
	return f
}

// around returns the matte of what value makes of the square of values around
// each place, up to the radius (row by row).
func around(m api.Matte, radius int, value func(square []float32) float32) (api.Matte, api.Errno) {
	if e := CheckMatte(m); e != api.OK {
		return api.Matte{}, e
	}
	if radius < 0 || radius > api.MaxRadius {
		return api.Matte{}, api.ErrRange
	}
	r, e := frame.Grow(m.Region, -radius)
	if e != api.OK {
		return api.Matte{}, api.ErrEmpty
	}
	side := 2*radius + 1
	square := make([]float32, 0, side*side)
	v := make([]float32, 0, r.W*r.H)
	for y := range r.H {
		for x := range r.W {
			square = square[:0]
			for line := y; line < y+side; line++ {
				from := line*m.W + x
				square = append(square, m.V[from:from+side]...)
			}
			v = append(v, num.Clean(value(square)))
		}
	}
	return api.Matte{Region: r, V: v}, api.OK
}

// chosen returns the first value, or, in order, each other one that is better
// than the one so far.
func chosen(square []float32, better func(v, than float32) bool) float32 {
	best := square[0]
	for _, v := range square[1:] {
		if better(v, best) {
			best = v
		}
	}
	return best
}

// Spread is described in doc/06-key.md.
func Spread(m api.Matte, radius int) (api.Matte, api.Errno) {
	return around(m, radius, func(square []float32) float32 {
		return chosen(square, func(v, than float32) bool { return v > than })
	})
}

// Shrink is described in doc/06-key.md.
func Shrink(m api.Matte, radius int) (api.Matte, api.Errno) {
	return around(m, radius, func(square []float32) float32 {
		return chosen(square, func(v, than float32) bool { return v < than })
	})
}

// Feather is described in doc/06-key.md.
func Feather(m api.Matte, radius int) (api.Matte, api.Errno) {
	return around(m, radius, func(square []float32) float32 {
		if areSame(square) {
			return square[0]
		}
		sum := square[0]
		for _, v := range square[1:] {
			sum += v
		}
		return sum / float32(len(square))
	})
}

// areSame says whether all values have the same bits.
func areSame(l []float32) bool {
	return !slices.ContainsFunc(l, func(v float32) bool { return num.Bits(v) != num.Bits(l[0]) })
}
