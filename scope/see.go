package scope

import (
	"dyehouse/api"
	"dyehouse/colour"
	"dyehouse/frame"
	"dyehouse/num"
)

// The greatest number of bands, and the greatest width of a stripe.
const (
	maxBands = 32
	maxWidth = 64
)

// CheckBands is described in doc/08-scope.md.
func CheckBands(l []api.Band) api.Errno {
	switch {
	case len(l) == 0:
		return api.ErrEmpty
	case len(l) > maxBands:
		return api.ErrLarge
	}
	for i, b := range l {
		if !areNumbers(b.From) {
			return api.ErrForm
		}
		if i > 0 && b.From <= l[i-1].From {
			return api.ErrOrder
		}
	}
	return api.OK
}

// checkSeen is the error of a frame, or of weights.
func checkSeen(f api.Frame, w [3]float32) api.Errno {
	if e := frame.Check(f); e != api.OK {
		return e
	}
	if !areNumbers(w[:]...) {
		return api.ErrForm
	}
	return api.OK
}

// seen returns the frame of what show makes of each pixel of f, which has no
// error, and of its luma.
func seen(f api.Frame, w [3]float32, show func(x, y int, p api.Pixel, l float32) api.Pixel) api.Frame {
	g := api.Frame{Region: f.Region, V: make([]float32, 0, len(f.V))}
	visit(f, func(x, y int, p api.Pixel) {
		for _, v := range show(x, y, p, colour.Luma(w, p)) {
			g.V = append(g.V, num.Clean(v))
		}
	})
	return g
}

// grey is the pixel with v for its colour.
func grey(v, alpha float32) api.Pixel { return api.Pixel{v, v, v, alpha} }

// False is described in doc/08-scope.md.
func False(f api.Frame, w [3]float32, l []api.Band) (api.Frame, api.Errno) {
	if e := checkSeen(f, w); e != api.OK {
		return api.Frame{}, e
	}
	if e := CheckBands(l); e != api.OK {
		return api.Frame{}, e
	}
	return seen(f, w, func(_, _ int, p api.Pixel, value float32) api.Pixel {
		shown := grey(value, p[3])
		for _, b := range l {
			if b.From <= value {
				shown = b.Colour
			}
		}
		return shown
	}), api.OK
}

// Zebra is described in doc/08-scope.md.
func Zebra(f api.Frame, w [3]float32, level float32, width int) (api.Frame, api.Errno) {
	if e := checkSeen(f, w); e != api.OK {
		return api.Frame{}, e
	}
	if !areNumbers(level) {
		return api.Frame{}, api.ErrForm
	}
	if !isWithin(width, 1, maxWidth) {
		return api.Frame{}, api.ErrRange
	}
	return seen(f, w, func(x, y int, p api.Pixel, value float32) api.Pixel {
		switch {
		case !(value >= level):
			return p
		case isWhite(x+y, width):
			return grey(1, p[3])
		}
		return grey(0, p[3])
	}), api.OK
}

// isWhite says whether n divided by width, rounded down, is even.
func isWhite(n, width int) bool {
	both := 2 * width
	// Go rounds quotients towards 0, so remainders may be negative.
	return (n%both+both)%both < width
}
