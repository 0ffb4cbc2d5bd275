package finish

import (
	"math"

	"dyehouse/api"
	"dyehouse/frame"
	"dyehouse/num"
)

// Vignette is described in doc/07-finish.md.
func Vignette(f api.Frame, v api.Vignette) (api.Frame, api.Errno) {
	if e := frame.Check(f); e != api.OK {
		return api.Frame{}, e
	}
	switch {
	case !areNumbers(v.X, v.Y, v.Inner, v.Outer, v.Dark):
		return api.Frame{}, api.ErrForm
	case v.Outer <= v.Inner:
		return api.Frame{}, api.ErrOrder
	case !isWithin(v.Dark, 0, 1):
		return api.Frame{}, api.ErrRange
	}
	return eachPixel(f, func(x, y int, p api.Pixel) api.Pixel {
		light := lightAt(v, x, y)
		return coloured(p, func(_ int, c float32) float32 { return c * light })
	}), api.OK
}

// lightAt is how much a vignette leaves at (x, y).
func lightAt(v api.Vignette, x, y int) float32 {
	dx, dy := float32(x)-v.X, float32(y)-v.Y
	r := float32(math.Sqrt(float64(float32(dx*dx) + float32(dy*dy))))
	t := num.Smooth((r - v.Inner) / (v.Outer - v.Inner))
	return num.Lerp(1, v.Dark, t)
}
