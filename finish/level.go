package finish

import (
	"dyehouse/api"
	"dyehouse/frame"
	"dyehouse/num"
)

// The greatest depth, and the side of the squares that DitherOrdered repeats.
const (
	maxDepth = 16
	square   = 8
)

// Ordered is described in doc/07-finish.md.
func Ordered(x, y int) int {
	// Of a power of two the lowest bits are what is left, also below 0.
	a, b := x&(square-1), y&(square-1)
	n := 0
	for bit := 1; bit < square; bit *= 2 {
		n *= 4
		if (a^b)&bit != 0 {
			n += 2
		}
		if b&bit != 0 {
			n++
		}
	}
	return n
}

// Offset is described in doc/07-finish.md. The conversions keep products, also
// those that may stand for quotients or within num.Unit, from being fused.
func Offset(how int, seed uint32, x, y, channel int) (float32, api.Errno) {
	switch how {
	case api.DitherNone:
		return 0, api.OK
	case api.DitherOrdered:
		return float32((float32(Ordered(x, y))+0.5)/(square*square)) - 0.5, api.OK
	case api.DitherHash:
		return float32(num.Unit(num.Hash(seed, x, y, channel))) - 0.5, api.OK
	}
	return 0, api.ErrKind
}

func isDepth(depth int) bool { return depth >= 1 && depth <= maxDepth }

// highest is the highest level of a depth.
func highest(depth int) int { return 1<<depth - 1 }

// Level is described in doc/07-finish.md.
func Level(v, offset float32, depth int) (int, api.Errno) {
	if !isDepth(depth) {
		return 0, api.ErrRange
	}
	m := highest(depth)
	n, _, e := num.Near(float32(v*float32(m))+offset, 0, m)
	return n, e
}

// isLevel says whether n is a level of a depth.
func isLevel(n, depth int) bool { return n >= 0 && n <= highest(depth) }

// Value is described in doc/07-finish.md.
func Value(n, depth int) (float32, api.Errno) {
	if !isDepth(depth) || !isLevel(n, depth) {
		return 0, api.ErrRange
	}
	return float32(n) / float32(highest(depth)), api.OK
}

// Levels is described in doc/07-finish.md.
func Levels(f api.Frame, how int, seed uint32, depth int) ([]int, api.Errno) {
	if e := frame.Check(f); e != api.OK {
		return nil, e
	}
	if _, e := Offset(how, seed, f.X, f.Y, 0); e != api.OK {
		return nil, e
	}
	if !isDepth(depth) {
		return nil, api.ErrRange
	}
	l := make([]int, 0, len(f.V))
	visit(f, func(x, y int, p api.Pixel) {
		for channel, v := range p {
			offset := float32(0)
			if channel < colours {
				offset, _ = Offset(how, seed, x, y, channel)
			}
			n, _ := Level(v, offset, depth)
			l = append(l, n)
		}
	})
	return l, api.OK
}

// Frame is described in doc/07-finish.md.
func Frame(r api.Region, l []int, depth int) (api.Frame, api.Errno) {
	if e := frame.CheckRegion(r); e != api.OK {
		return api.Frame{}, e
	}
	if !isDepth(depth) {
		return api.Frame{}, api.ErrRange
	}
	if len(l) != channels*r.W*r.H {
		return api.Frame{}, api.ErrForm
	}
	f := api.Frame{Region: r, V: make([]float32, 0, len(l))}
	for _, n := range l {
		v, e := Value(n, depth)
		if e != api.OK {
			return api.Frame{}, e
		}
		f.V = append(f.V, v)
	}
	return f, api.OK
}
