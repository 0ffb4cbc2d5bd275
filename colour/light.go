package colour

import (
	"math"

	"dyehouse/api"
	"dyehouse/frame"
	"dyehouse/num"
)

// Lab is described in doc/03-colour.md.
func Lab(p api.Pixel, s api.Primaries) ([3]float32, api.Errno) {
	m, e := ToXYZ(s)
	if e != api.OK {
		return [3]float32{}, e
	}
	light, white := Apply(m, p), xyz(s.White)
	var f [3]float32
	for i, v := range white {
		f[i] = felt(light[i] / float32(v))
	}
	return [3]float32{
		num.Clean(float32(116*f[1]) - 16),
		num.Clean(500 * (f[0] - f[1])),
		num.Clean(200 * (f[1] - f[2])),
	}, api.OK
}

// felt is how strong a share of the white's light looks.
func felt(share float32) float32 {
	if share > 0.008856 {
		return num.Power(share, 1.0/3)
	}
	return float32(share*7.787) + 16.0/116
}

// Differ is described in doc/03-colour.md.
func Differ(a, b [3]float32) float32 {
	square := func(i int) float32 {
		d := a[i] - b[i]
		return float32(d * d)
	}
	sum := square(0) + square(1) + square(2)
	return num.Clean(float32(math.Sqrt(float64(sum))))
}

// polynomial is that of x with the factors of its powers, the highest one first.
func polynomial(x float64, factors ...float64) float64 {
	sum := factors[0]
	for _, f := range factors[1:] {
		sum = float64(sum*x) + f
	}
	return sum
}

// White is described in doc/03-colour.md.
func White(kelvin float32) (api.Spot, api.Errno) {
	if !within(kelvin, 2000, 25000) {
		return api.Spot{}, api.ErrRange
	}
	t := 1000 / float64(kelvin)
	x := polynomial(t, -4.607, 2.9678, 0.09911, 0.244063)
	if kelvin > 7000 {
		x = polynomial(t, -3.0258469, 2.1070379, 0.2226347, 0.24039)
	}
	y := polynomial(x, -3, 2.87, -0.275)
	return api.Spot{X: float32(x), Y: float32(y)}, api.OK
}

// Warm is described in doc/03-colour.md.
func Warm(f api.Frame, s api.Space, from, to float32) (api.Frame, api.Errno) {
	if e := frame.Check(f); e != api.OK {
		return api.Frame{}, e
	}
	if e := CheckSpace(s); e != api.OK {
		return api.Frame{}, e
	}
	m, e := warming(s.Primaries, from, to)
	if e != api.OK {
		return api.Frame{}, e
	}
	decode, encode := decoder(s.Transfer), encoder(s.Transfer)
	return each(f, func(p api.Pixel) api.Pixel { return encode.of(Apply(m, decode.of(p))) }), api.OK
}

// warming is the matrix by which Warm changes linear light.
func warming(p api.Primaries, from, to float32) (api.Matrix, api.Errno) {
	was, e := White(from)
	if e != api.OK {
		return api.Matrix{}, e
	}
	is, e := White(to)
	if e != api.OK {
		return api.Matrix{}, e
	}
	lights, e := ToXYZ(p)
	if e != api.OK {
		return api.Matrix{}, e
	}
	light, e := adapted(lights, was, is)
	if e != api.OK {
		return api.Matrix{}, e
	}
	return mixed(lights, light)
}
