package grade

import (
	"dyehouse/api"
	"dyehouse/colour"
	"dyehouse/num"
)

// areExponents says whether all of l are from 0.0625 to 16.
func areExponents(l [3]float32) bool {
	for _, v := range l {
		if v < 0.0625 || v > 16 {
			return false
		}
	}
	return true
}

// CheckWheels is described in doc/04-grade.md.
func CheckWheels(w api.Wheels) api.Errno {
	for _, l := range [...][3]float32{w.Lift, w.Gamma, w.Gain} {
		if !areNumbers(l[:]...) {
			return api.ErrForm
		}
	}
	if !areExponents(w.Gamma) {
		return api.ErrRange
	}
	return api.OK
}

// Wheels is described in doc/04-grade.md.
func Wheels(w api.Wheels, p api.Pixel) api.Pixel {
	return coloured(p, func(i int, v float32) float32 {
		// Here and below, conversions keep products from being fused with sums.
		u := float32(v*(w.Gain[i]-w.Lift[i])) + w.Lift[i]
		if u > 0 && w.Gamma[i] != 1 {
			return num.Power(u, 1/w.Gamma[i])
		}
		return u
	})
}

// CheckList is described in doc/04-grade.md.
func CheckList(c api.CDL) api.Errno {
	for _, l := range [...][3]float32{c.Slope, c.Offset, c.Power} {
		if !areNumbers(l[:]...) {
			return api.ErrForm
		}
	}
	if !areNumbers(c.Saturation) {
		return api.ErrForm
	}
	if min(c.Slope[0], c.Slope[1], c.Slope[2]) < 0 || !areExponents(c.Power) || c.Saturation < 0 || c.Saturation > 8 {
		return api.ErrRange
	}
	return api.OK
}

// List is described in doc/04-grade.md.
func List(c api.CDL, p api.Pixel) api.Pixel {
	p = coloured(p, func(i int, v float32) float32 {
		u := num.Limit(float32(v*c.Slope[i])+c.Offset[i], 0, 1)
		if c.Power[i] != 1 {
			return num.Power(u, c.Power[i])
		}
		return u
	})
	if c.Saturation != 1 {
		return colour.Saturate([3]float32{0.2126, 0.7152, 0.0722}, p, c.Saturation)
	}
	return p
}
