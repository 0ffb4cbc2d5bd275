package grade

import (
	"dyehouse/api"
	"dyehouse/num"
)

// noPoints is how many printer points change nothing, maxPoints the most that
// there are.
const (
	noPoints  = 25
	maxPoints = 50
)

// CheckMixer is described in doc/04-grade.md.
func CheckMixer(m api.Mixer) api.Errno {
	if !areNumbers(m.Rows[:]...) {
		return api.ErrForm
	}
	return api.OK
}

// Mixer is described in doc/04-grade.md.
func Mixer(m api.Mixer, p api.Pixel) api.Pixel {
	was := p
	return coloured(p, func(i int, _ float32) float32 {
		row := m.Rows[4*i : 4*i+4]
		return float32(was[0]*row[0]) + float32(was[1]*row[1]) + float32(was[2]*row[2]) + row[3]
	})
}

// Contrast is described in doc/04-grade.md.
func Contrast(v, pivot, amount float32) float32 {
	return num.Clean(float32((v-pivot)*amount) + pivot)
}

// checkPoints is the error of printer points.
func checkPoints(points [3]int) api.Errno {
	for _, n := range points {
		if n < 0 || n > maxPoints {
			return api.ErrRange
		}
	}
	return api.OK
}

// printing returns what printer points that have no error do.
func printing(points [3]int) change {
	var gains [3]float32
	for i, n := range points {
		gains[i] = num.Exp2(float32(n-noPoints) / 12)
	}
	return func(p api.Pixel) api.Pixel {
		return coloured(p, func(i int, v float32) float32 { return v * gains[i] })
	}
}

// Printer is described in doc/04-grade.md.
func Printer(points [3]int, p api.Pixel) (api.Pixel, api.Errno) {
	if e := checkPoints(points); e != api.OK {
		return api.Pixel{}, e
	}
	return printing(points)(p), api.OK
}
