package frame

import (
	"dyehouse/api"
	"dyehouse/num"
)

// blank is a frame of zeros.
func blank(r api.Region) api.Frame {
	return api.Frame{Region: r, V: make([]float32, channels*r.W*r.H)}
}

// Cut is described in doc/02-frame.md.
func Cut(f api.Frame, r api.Region) (api.Frame, api.Errno) {
	if e := Check(f); e != api.OK {
		return api.Frame{}, e
	}
	if e := CheckRegion(r); e != api.OK {
		return api.Frame{}, e
	}
	if !Inside(r, f.Region) {
		return api.Frame{}, api.ErrPlace
	}
	part := blank(r)
	transfer(part, f, r)
	return part, api.OK
}

// Paste is described in doc/02-frame.md.
func Paste(f, g api.Frame) (api.Frame, api.Errno) {
	if e := checkBoth(f, g); e != api.OK {
		return api.Frame{}, e
	}
	both, some := Common(f.Region, g.Region)
	if !some {
		return api.Frame{}, api.ErrPlace
	}
	pasted := cleaned(f)
	transfer(pasted, g, both)
	return pasted, api.OK
}

// Join is described in doc/02-frame.md.
func Join(r api.Region, l []api.Frame) (api.Frame, api.Errno) {
	if e := CheckRegion(r); e != api.OK {
		return api.Frame{}, e
	}
	whole, missing := blank(r), r.W*r.H
	had := make([]bool, missing)
	for _, part := range l {
		if e := Check(part); e != api.OK {
			return api.Frame{}, e
		}
		if !Inside(part.Region, r) {
			return api.Frame{}, api.ErrPlace
		}
		if !occupy(had, r, part.Region) {
			return api.Frame{}, api.ErrTwice
		}
		transfer(whole, part, part.Region)
		missing -= part.W * part.H
	}
	if missing > 0 {
		return api.Frame{}, api.ErrEmpty
	}
	return whole, api.OK
}

// occupy marks the pixels of part in had, which has one place for each pixel of
// r, and says whether none of them was marked before.
func occupy(had []bool, r, part api.Region) bool {
	for y := part.Y; y < part.Y+part.H; y++ {
		for x := part.X; x < part.X+part.W; x++ {
			i := place(r, x, y)
			if had[i] {
				return false
			}
			had[i] = true
		}
	}
	return true
}

// plane returns the singles of a channel of f.
func plane(f api.Frame, channel int) []float32 {
	p := make([]float32, 0, f.W*f.H)
	for i := channel; i < len(f.V); i += channels {
		p = append(p, num.Clean(f.V[i]))
	}
	return p
}

// Plane is described in doc/02-frame.md.
func Plane(f api.Frame, channel int) ([]float32, api.Errno) {
	if e := Check(f); e != api.OK {
		return nil, e
	}
	if channel < 0 || channel >= channels {
		return nil, api.ErrRange
	}
	return plane(f, channel), api.OK
}

// FromPlanes is described in doc/02-frame.md.
func FromPlanes(r api.Region, p [4][]float32) (api.Frame, api.Errno) {
	if e := CheckRegion(r); e != api.OK {
		return api.Frame{}, e
	}
	for _, l := range p {
		if len(l) != r.W*r.H {
			return api.Frame{}, api.ErrForm
		}
	}
	return build(r, func(x, y, channel int) float32 { return p[channel][place(r, x, y)] }), api.OK
}

// Total is described in doc/02-frame.md.
func Total(f api.Frame) (api.Pixel, api.Errno) {
	if e := Check(f); e != api.OK {
		return api.Pixel{}, e
	}
	var sums api.Pixel
	for channel := range sums {
		sums[channel] = num.Sum(plane(f, channel))
	}
	return sums, api.OK
}
