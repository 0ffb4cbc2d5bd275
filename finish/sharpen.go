package finish

import (
	"dyehouse/api"
	"dyehouse/frame"
)

// maxAmount is the greatest amount of sharpening.
const maxAmount = 16

// Sharpen is described in doc/07-finish.md.
func Sharpen(f api.Frame, amount, least float32) (api.Frame, api.Errno) {
	if e := frame.Check(f); e != api.OK {
		return api.Frame{}, e
	}
	if !areNumbers(amount, least) {
		return api.Frame{}, api.ErrForm
	}
	if !isWithin(amount, 0, maxAmount) || least < 0 {
		return api.Frame{}, api.ErrRange
	}
	return eachPixel(f, func(x, y int, p api.Pixel) api.Pixel {
		return coloured(p, func(channel int, c float32) float32 {
			d := c - meanAround(f, x, y, channel)
			if magnitude(d) < least {
				return c
			}
			return c + float32(d*amount)
		})
	}), api.OK
}

// meanAround is the mean of the nine values around (x, y), row by row.
func meanAround(f api.Frame, x, y, channel int) float32 {
	var nine [9]float32
	for i := range nine {
		nine[i] = nearest(f, x+i%3-1, y+i/3-1, channel)
	}
	sum := nine[0]
	for _, v := range nine[1:] {
		sum += v
	}
	return sum / float32(len(nine))
}

// nearest is a channel of the pixel of f that is nearest to (x, y).
func nearest(f api.Frame, x, y, channel int) float32 {
	column := min(max(x-f.X, 0), f.W-1)
	row := min(max(y-f.Y, 0), f.H-1)
	return f.V[channels*(row*f.W+column)+channel]
}
