package cube

import (
	"math"

	"dyehouse/api"
	"dyehouse/num"
)

// isGrey says whether three values are one number.
func isGrey(v [colours]float32) bool {
	return areNumbers(v[0]) && num.Bits(v[0]) == num.Bits(v[1]) && num.Bits(v[1]) == num.Bits(v[2])
}

// Grey is described in doc/05-cube.md.
func Grey(c api.Cube) (bool, api.Errno) {
	if e := Check(c); e != api.OK {
		return false, e
	}
	for n := range c.Size {
		if !isGrey(entry(c, [colours]int{n, n, n})) {
			return false, api.OK
		}
	}
	return true, api.OK
}

// apart is the greatest of the magnitudes of the differences of both.
func apart(a, b [colours]float32) float32 {
	var most float32
	for i, v := range a {
		if num.Bits(v) == num.Bits(b[i]) {
			continue
		}
		d := math.Abs(float64(v - b[i]))
		if d != d {
			d = math.Inf(1)
		}
		most = max(most, float32(d))
	}
	return most
}

// Rough is described in doc/05-cube.md.
func Rough(c api.Cube) (float32, api.Errno) {
	if e := Check(c); e != api.OK {
		return 0, e
	}
	var most float32
	for at := range places(c.Size) {
		for axis := range at {
			next := at
			next[axis]++
			if next[axis] < c.Size {
				most = max(most, apart(entry(c, at), entry(c, next)))
			}
		}
	}
	return most, api.OK
}

// Apart is described in doc/05-cube.md.
func Apart(a, b api.Cube) (float32, api.Errno) {
	if e := checkAlike(a, b); e != api.OK {
		return 0, e
	}
	var most float32
	for at := range places(a.Size) {
		most = max(most, apart(entry(a, at), entry(b, at)))
	}
	return most, api.OK
}

// Bounds is described in doc/05-cube.md.
func Bounds(c api.Cube) (low, high [3]float32, e api.Errno) {
	if e := Check(c); e != api.OK {
		return [3]float32{}, [3]float32{}, e
	}
	low = entry(c, [colours]int{})
	high = low
	for at := range places(c.Size) {
		v := entry(c, at)
		// Not by min and max: a NaN would take the place of a number.
		low = each(low, func(i int, least float32) float32 {
			if v[i] < least {
				return v[i]
			}
			return least
		})
		high = each(high, func(i int, most float32) float32 {
			if v[i] > most {
				return v[i]
			}
			return most
		})
	}
	return low, high, api.OK
}
