package colour

import (
	"math"

	"dyehouse/api"
	"dyehouse/num"
)

// Weights is described in doc/03-colour.md.
func Weights(p api.Primaries) ([3]float32, api.Errno) {
	m, e := ToXYZ(p)
	if e != api.OK {
		return [3]float32{}, e
	}
	y := row(m, 1)
	return [3]float32{float32(y[0]), float32(y[1]), float32(y[2])}, api.OK
}

// Luma is described in doc/03-colour.md.
func Luma(w [3]float32, p api.Pixel) float32 {
	return num.Clean(float32(w[0]*p[0]) + float32(w[1]*p[1]) + float32(w[2]*p[2]))
}

// Saturate is described in doc/03-colour.md.
func Saturate(w [3]float32, p api.Pixel, amount float32) api.Pixel {
	l := Luma(w, p)
	for i, c := range p[:colours] {
		p[i] = l + float32((c-l)*amount)
	}
	return cleaned(p)
}

// ToHSV is described in doc/03-colour.md.
func ToHSV(p api.Pixel) (float32, float32, float32) {
	greatest, least := p[0], p[0]
	for _, c := range p[:colours] {
		if c != c {
			return theNaN(), theNaN(), theNaN()
		}
		if c > greatest {
			greatest = c
		}
		if c < least {
			least = c
		}
	}
	d, s := greatest-least, float32(0)
	if greatest != 0 {
		s = d / greatest
	}
	return num.Clean(hue(p, greatest, d)), num.Clean(s), greatest
}

// hue is the hue of a pixel whose greatest colour is d above its least one.
func hue(p api.Pixel, greatest, d float32) float32 {
	if d == 0 {
		return 0
	}
	red, green, blue := p[0], p[1], p[2]
	sixths := (red-green)/d + 4
	switch greatest {
	case red:
		sixths = (green - blue) / d
	case green:
		sixths = (blue-red)/d + 2
	}
	h := sixths / 6
	if h < 0 {
		return h + 1
	}
	return h
}

// FromHSV is described in doc/03-colour.md.
func FromHSV(h, s, v, alpha float32) api.Pixel {
	if !areNumbers(h, s, v) {
		return cleaned(api.Pixel{theNaN(), theNaN(), theNaN(), alpha})
	}
	sixths := float32((h - floor(h)) * 6)
	i := floor(sixths)
	if i > 5 {
		i = 5
	}
	f := sixths - i
	p := v * (1 - s)
	q := v * (1 - float32(s*f))
	t := v * (1 - float32(s*(1-f)))
	c := api.Pixel{v, p, q, alpha}
	switch i {
	case 0:
		c = api.Pixel{v, t, p, alpha}
	case 1:
		c = api.Pixel{q, v, p, alpha}
	case 2:
		c = api.Pixel{p, v, t, alpha}
	case 3:
		c = api.Pixel{p, q, v, alpha}
	case 4:
		c = api.Pixel{t, p, v, alpha}
	}
	return cleaned(c)
}

// HueApart is described in doc/03-colour.md.
func HueApart(a, b float32) float32 {
	if !areNumbers(a, b) {
		return theNaN()
	}
	d := a - b
	return num.Clean(float32(math.Abs(float64(d - floor(d+0.5)))))
}

// Turn is described in doc/03-colour.md.
func Turn(p api.Pixel, by float32) api.Pixel {
	h, s, v := ToHSV(p)
	return FromHSV(h+by, s, v, p[3])
}
