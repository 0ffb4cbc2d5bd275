package finish

import (
	"dyehouse/api"
	"dyehouse/frame"
	"dyehouse/num"
)

// The greatest size of grain, and its greatest strength and fall.
const (
	maxSize     = 16
	maxStrength = 4
)

// CheckGrain is described in doc/07-finish.md.
func CheckGrain(g api.Grain) api.Errno {
	switch {
	case g.Size < 1 || g.Size > maxSize:
		return api.ErrRange
	case !areNumbers(g.Strength, g.Fall):
		return api.ErrForm
	case !isWithin(g.Strength, 0, maxStrength) || !isWithin(g.Fall, 0, maxStrength):
		return api.ErrRange
	}
	return api.OK
}

// isPlace says whether there may be a pixel at a coordinate.
func isPlace(at int) bool { return at >= -api.MaxPlace && at <= api.MaxPlace }

// Grained is described in doc/07-finish.md.
func Grained(g api.Grain, number, x, y int, p api.Pixel) (api.Pixel, api.Errno) {
	if e := CheckGrain(g); e != api.OK {
		return api.Pixel{}, e
	}
	if !isPlace(x) || !isPlace(y) {
		return api.Pixel{}, api.ErrPlace
	}
	return coloured(p, func(channel int, c float32) float32 {
		noise := noiseAt(g, number, x, y, channel)
		left := num.Limit(1-float32(g.Fall*c), 0, 1)
		return c + float32(noise*g.Strength*left)
	}), api.OK
}

// noiseAt is from -1 to below 1, and most often near 0.
func noiseAt(g api.Grain, number, x, y, channel int) float32 {
	if g.Mono {
		channel = 0
	}
	var u [4]float32
	for n := range u {
		u[n] = num.Unit(num.Hash(g.Seed^uint32(number), quotient(x, g.Size), quotient(y, g.Size), len(u)*channel+n))
	}
	return float32(((u[0]+u[1])+(u[2]+u[3]))*0.5) - 1
}

// quotient is n / by, rounded down (not towards 0, as Go does).
func quotient(n, by int) int {
	if n%by < 0 {
		return n/by - 1
	}
	return n / by
}

// Grain is described in doc/07-finish.md.
func Grain(f api.Frame, g api.Grain, number int) (api.Frame, api.Errno) {
	if e := frame.Check(f); e != api.OK {
		return api.Frame{}, e
	}
	if e := CheckGrain(g); e != api.OK {
		return api.Frame{}, e
	}
	return eachPixel(f, func(x, y int, p api.Pixel) api.Pixel {
		p, _ = Grained(g, number, x, y, p)
		return p
	}), api.OK
}
