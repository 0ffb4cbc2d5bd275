package frame

import (
	"dyehouse/api"
	"dyehouse/num"
)

// around returns the frame of what value makes of the square of singles around
// each one, up to the distance by (row by row); it has the pixels whose squares
// lie in f.
func around(f api.Frame, by int, value func(square []float32) float32) (api.Frame, api.Errno) {
	r, e := Grow(f.Region, -by)
	if e != api.OK {
		return api.Frame{}, api.ErrEmpty
	}
	side := 2*by + 1
	square := make([]float32, 0, side*side)
	return build(r, func(x, y, channel int) float32 {
		square = square[:0]
		for line := y - by; line <= y+by; line++ {
			row := span(f, x-by, line, side)
			for i := channel; i < len(row); i += channels {
				square = append(square, row[i])
			}
		}
		return value(square)
	}), api.OK
}

// Kernel is described in doc/02-frame.md.
func Kernel(f api.Frame, k []float32, side int) (api.Frame, api.Errno) {
	if e := Check(f); e != api.OK {
		return api.Frame{}, e
	}
	if side < 1 || side > api.MaxKernel || side%2 == 0 {
		return api.Frame{}, api.ErrRange
	}
	if len(k) != side*side {
		return api.Frame{}, api.ErrForm
	}
	return around(f, (side-1)/2, func(square []float32) float32 {
		// A sum that began with 0 would lose the sign of a product that is -0.
		sum := float32(k[0] * square[0])
		for i := 1; i < len(k); i++ {
			sum += float32(k[i] * square[i])
		}
		return sum
	})
}

// Blur is described in doc/02-frame.md.
func Blur(f api.Frame, radius int) (api.Frame, api.Errno) {
	if e := Check(f); e != api.OK {
		return api.Frame{}, e
	}
	if radius < 0 || radius > api.MaxRadius {
		return api.Frame{}, api.ErrRange
	}
	return around(f, radius, func(square []float32) float32 {
		sum := square[0]
		for _, v := range square[1:] {
			sum += v
		}
		return sum / float32(len(square))
	})
}

// Half is described in doc/02-frame.md.
func Half(f api.Frame) (api.Frame, api.Errno) {
	if e := Check(f); e != api.OK {
		return api.Frame{}, e
	}
	x, w := halves(f.X, f.W)
	y, h := halves(f.Y, f.H)
	if w < 1 || h < 1 {
		return api.Frame{}, api.ErrEmpty
	}
	return build(api.Region{X: x, Y: y, W: w, H: h}, func(x, y, channel int) float32 {
		pair := func(y int) float32 {
			return single(f, 2*x, y, channel) + single(f, 2*x+1, y, channel)
		}
		return (pair(2*y) + pair(2*y+1)) * 0.25
	}), api.OK
}

// halves returns where the pairs at even coordinates begin, halved, that lie in
// n pixels from a coordinate on, and how many there are.
func halves(at, n int) (int, int) {
	first, odd := divide(at, 2)
	return first + odd, (n - odd) / 2
}

// Resample is described in doc/02-frame.md.
func Resample(f api.Frame, r api.Region, num, den int) (api.Frame, api.Errno) {
	if e := Check(f); e != api.OK {
		return api.Frame{}, e
	}
	if e := CheckRegion(r); e != api.OK {
		return api.Frame{}, e
	}
	s := scale{num, den}
	if !s.good() {
		return api.Frame{}, api.ErrRange
	}
	if !Inside(s.needed(r), f.Region) {
		return api.Frame{}, api.ErrPlace
	}
	return build(r, func(x, y, channel int) float32 { return s.between(f, x, y, channel) }), api.OK
}

// scale is a fraction by which coordinates are multiplied.
type scale struct{ num, den int }

// good says whether both parts are within their bounds.
func (s scale) good() bool { return s.num >= 1 && s.num <= 64 && s.den >= 1 && s.den <= 64 }

// split returns the whole coordinate at or ahead of n times s, and how far that
// is on the way to the next one.
func (s scale) split(n int) (int, float32) {
	whole, rest := divide(n*s.num, s.den)
	return whole, float32(rest) / float32(s.den)
}

// stretch returns the first coordinate that n of them from a coordinate on need,
// and how many. The quotients rise, so none in between needs more.
func (s scale) stretch(at, n int) (int, int) {
	first, _ := s.split(at)
	last, share := s.split(at + n - 1)
	if share > 0 {
		last++
	}
	return first, last - first + 1
}

// needed is the region from the first pixel to the last one that r needs.
func (s scale) needed(r api.Region) api.Region {
	x, w := s.stretch(r.X, r.W)
	y, h := s.stretch(r.Y, r.H)
	return api.Region{X: x, Y: y, W: w, H: h}
}

// between is a channel of f between pixels, at (x, y) times s.
func (s scale) between(f api.Frame, x, y, channel int) float32 {
	i, right := s.split(x)
	j, down := s.split(y)
	across := func(j int) float32 {
		v := single(f, i, j, channel)
		if right == 0 {
			return v
		}
		return num.Lerp(v, single(f, i+1, j, channel), right)
	}
	if down == 0 {
		return across(j)
	}
	return num.Lerp(across(j), across(j+1), down)
}
