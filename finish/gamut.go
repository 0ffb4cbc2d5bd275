package finish

import (
	"math"

	"dyehouse/api"
	"dyehouse/num"
)

// Compress is described in doc/07-finish.md.
func Compress(p api.Pixel, from float32) (api.Pixel, api.Errno) {
	if !areNumbers(from) {
		return api.Pixel{}, api.ErrForm
	}
	if from < 0 || from >= 1 {
		return api.Pixel{}, api.ErrRange
	}
	a := max(p[0], p[1], p[2])
	stays := !areNumbers(p[:colours]...) || a <= 0
	return coloured(p, func(_ int, c float32) float32 {
		if stays {
			return c
		}
		return compressed(a, c, from)
	}), api.OK
}

// compressed is c brought nearer to a, the greatest value of its colour, if it is
// farther away than from of a.
func compressed(a, c, from float32) float32 {
	d := (a - c) / a
	if d <= from {
		return c
	}
	x := (d - from) / (1 - from)
	y := float32(1)
	if !math.IsInf(float64(x), 0) {
		y = x / (1 + x)
	}
	d = from + float32((1-from)*y)
	return a - float32(d*a)
}

// Clip is described in doc/07-finish.md.
func Clip(p api.Pixel, low, high float32) (api.Pixel, int, api.Errno) {
	if !areNumbers(low, high) {
		return api.Pixel{}, 0, api.ErrForm
	}
	if high < low {
		return api.Pixel{}, 0, api.ErrOrder
	}
	changed := 0
	clipped := coloured(p, func(_ int, v float32) float32 {
		limited := num.Limit(v, low, high)
		if num.Bits(limited) != num.Bits(v) {
			changed++
		}
		return limited
	})
	return clipped, changed, api.OK
}
