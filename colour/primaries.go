package colour

import "dyehouse/api"

// leastY is the least magnitude of the Y of a spot.
const leastY = 1.0 / (1 << 10)

// checkSpot is the error of a spot.
func checkSpot(s api.Spot) api.Errno {
	if !areNumbers(s.X, s.Y) {
		return api.ErrForm
	}
	if !within(s.X, -1, 2) || !within(s.Y, -1, 2) || s.Y > -leastY && s.Y < leastY {
		return api.ErrRange
	}
	return api.OK
}

// checkSpots is the error of the first of some spots that has one.
func checkSpots(l ...api.Spot) api.Errno {
	for _, s := range l {
		if e := checkSpot(s); e != api.OK {
			return e
		}
	}
	return api.OK
}

// CheckPrimaries is described in doc/03-colour.md.
func CheckPrimaries(p api.Primaries) api.Errno {
	return checkSpots(p.Red, p.Green, p.Blue, p.White)
}

// xyz are the XYZ of a spot.
func xyz(s api.Spot) [3]float64 {
	x, y := float64(s.X), float64(s.Y)
	return [3]float64{x / y, 1, (1 - x - y) / y}
}

// ToXYZ is described in doc/03-colour.md.
func ToXYZ(p api.Primaries) (api.Matrix, api.Errno) {
	if e := CheckPrimaries(p); e != api.OK {
		return api.Matrix{}, e
	}
	red, green, blue := xyz(p.Red), xyz(p.Green), xyz(p.Blue)
	m := api.Matrix{
		red[0], green[0], blue[0],
		red[1], green[1], blue[1],
		red[2], green[2], blue[2],
	}
	inverse, e := Inverse(m)
	if e != api.OK {
		return api.Matrix{}, e
	}
	s := transform(inverse, xyz(p.White))
	for i := range m {
		m[i] *= s[i%3]
	}
	return m, api.OK
}

// cones is the matrix from XYZ to what the eye's cones see.
func cones() api.Matrix {
	return api.Matrix{
		0.8951, 0.2664, -0.1614,
		-0.7502, 1.7135, 0.0367,
		0.0389, -0.0685, 1.0296,
	}
}

// Adapt is described in doc/03-colour.md.
func Adapt(from, to api.Spot) (api.Matrix, api.Errno) {
	if e := checkSpots(from, to); e != api.OK {
		return api.Matrix{}, e
	}
	k := cones()
	a, b := transform(k, xyz(from)), transform(k, xyz(to))
	var d api.Matrix
	for i := range a {
		if a[i] == 0 {
			return api.Matrix{}, api.ErrRange
		}
		d[4*i] = b[i] / a[i]
	}
	inverse, e := Inverse(k)
	if e != api.OK {
		return api.Matrix{}, e
	}
	return Multiply(Multiply(inverse, d), k), api.OK
}

// adapted is Multiply(Adapt(from, to), light).
func adapted(light api.Matrix, from, to api.Spot) (api.Matrix, api.Errno) {
	m, e := Adapt(from, to)
	if e != api.OK {
		return api.Matrix{}, e
	}
	return Multiply(m, light), api.OK
}

// mixed is Multiply(Inverse(lights), light).
func mixed(lights, light api.Matrix) (api.Matrix, api.Errno) {
	inverse, e := Inverse(lights)
	if e != api.OK {
		return api.Matrix{}, e
	}
	return Multiply(inverse, light), api.OK
}

// Between is described in doc/03-colour.md.
func Between(from, to api.Primaries) (api.Matrix, api.Errno) {
	for _, p := range [...]api.Primaries{from, to} {
		if e := CheckPrimaries(p); e != api.OK {
			return api.Matrix{}, e
		}
	}
	light, e := ToXYZ(from)
	if e != api.OK {
		return api.Matrix{}, e
	}
	lights, e := ToXYZ(to)
	if e != api.OK {
		return api.Matrix{}, e
	}
	if from.White != to.White {
		if light, e = adapted(light, from.White, to.White); e != api.OK {
			return api.Matrix{}, e
		}
	}
	return mixed(lights, light)
}
