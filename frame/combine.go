package frame

import (
	"dyehouse/api"
	"dyehouse/num"
)

// operation returns what Combine makes of a single of each frame, and of the
// alpha of the first one's pixel; nil, if there is no such operation. The
// conversions keep products from being fused with sums.
func operation(op int) func(a, b, alpha float32) float32 {
	switch op {
	case api.OpAdd:
		return func(a, b, _ float32) float32 { return a + b }
	case api.OpSub:
		return func(a, b, _ float32) float32 { return a - b }
	case api.OpMul:
		return func(a, b, _ float32) float32 { return float32(a * b) }
	case api.OpDiv:
		return func(a, b, _ float32) float32 { return a / b }
	case api.OpLess:
		return func(a, b, _ float32) float32 { return either(b < a, b, a) }
	case api.OpMore:
		return func(a, b, _ float32) float32 { return either(b > a, b, a) }
	case api.OpScreen:
		return func(a, b, _ float32) float32 { return 1 - float32((1-a)*(1-b)) }
	case api.OpOver:
		return func(a, b, alpha float32) float32 { return a + float32(b*(1-alpha)) }
	}
	return nil
}

// either returns a if it is so, otherwise b.
func either(so bool, a, b float32) float32 {
	if so {
		return a
	}
	return b
}

// alphaOf is the index of the alpha of the pixel that has the single at i.
func alphaOf(i int) int { return i | (channels - 1) }

// Combine is described in doc/02-frame.md.
func Combine(op int, a, b api.Frame) (api.Frame, api.Errno) {
	if e := checkBoth(a, b); e != api.OK {
		return api.Frame{}, e
	}
	combined := operation(op)
	if combined == nil {
		return api.Frame{}, api.ErrKind
	}
	if a.Region != b.Region {
		return api.Frame{}, api.ErrPlace
	}
	return each(a, func(i int, v float32) float32 { return combined(v, b.V[i], a.V[alphaOf(i)]) }), api.OK
}

// Scale is described in doc/02-frame.md.
func Scale(f api.Frame, m, c api.Pixel) (api.Frame, api.Errno) {
	if e := Check(f); e != api.OK {
		return api.Frame{}, e
	}
	return each(f, func(i int, v float32) float32 {
		channel := i % channels
		return float32(v*m[channel]) + c[channel]
	}), api.OK
}

// Mix is described in doc/02-frame.md.
func Mix(a, b api.Frame, t float32) (api.Frame, api.Errno) {
	if e := checkBoth(a, b); e != api.OK {
		return api.Frame{}, e
	}
	if a.Region != b.Region {
		return api.Frame{}, api.ErrPlace
	}
	return each(a, func(i int, v float32) float32 { return num.Lerp(v, b.V[i], t) }), api.OK
}

// checkMatte is for mattes what Check is for frames.
func checkMatte(m api.Matte) api.Errno {
	if e := CheckRegion(m.Region); e != api.OK {
		return e
	}
	if len(m.V) != m.W*m.H {
		return api.ErrForm
	}
	return api.OK
}

// Through is described in doc/02-frame.md.
func Through(a, b api.Frame, m api.Matte) (api.Frame, api.Errno) {
	if e := checkBoth(a, b); e != api.OK {
		return api.Frame{}, e
	}
	if e := checkMatte(m); e != api.OK {
		return api.Frame{}, e
	}
	if a.Region != b.Region || a.Region != m.Region {
		return api.Frame{}, api.ErrPlace
	}
	return each(a, func(i int, v float32) float32 { return num.Lerp(v, b.V[i], m.V[i/channels]) }), api.OK
}
