package cube

import (
	"dyehouse/api"
	"dyehouse/num"
)

// through is what c makes, by Tetra, of a colour.
func through(c api.Cube, v [colours]float32) [colours]float32 {
	p := looked(c, tetra, api.Pixel{v[0], v[1], v[2]})
	return [colours]float32(p[:colours])
}

// valuesAt are the values for which an entry of a cube of that size, from the
// Low to the High of c, stands.
func valuesAt(c api.Cube, at [colours]int, size int) [colours]float32 {
	var v [colours]float32
	for axis, n := range at {
		v[axis] = c.Low + float32((c.High-c.Low)*part(n, size))
	}
	return v
}

// Compose is described in doc/05-cube.md.
func Compose(a, b api.Cube) (api.Cube, api.Errno) {
	if e := checkBoth(a, b); e != api.OK {
		return api.Cube{}, e
	}
	return build(a.Size, a.Low, a.High, func(at [colours]int) [colours]float32 {
		return through(b, entry(a, at))
	}), api.OK
}

// Resize is described in doc/05-cube.md.
func Resize(c api.Cube, size int) (api.Cube, api.Errno) {
	if e := Check(c); e != api.OK {
		return api.Cube{}, e
	}
	if !isSize(size) {
		return api.Cube{}, api.ErrRange
	}
	return build(size, c.Low, c.High, func(at [colours]int) [colours]float32 {
		return through(c, valuesAt(c, at, size))
	}), api.OK
}

// Blend is described in doc/05-cube.md.
func Blend(a, b api.Cube, t float32) (api.Cube, api.Errno) {
	if e := checkAlike(a, b); e != api.OK {
		return api.Cube{}, e
	}
	return build(a.Size, a.Low, a.High, func(at [colours]int) [colours]float32 {
		return lerp(entry(a, at), entry(b, at), t)
	}), api.OK
}

// neighbours are the entries next to one, in the order in which they are added.
func neighbours(c api.Cube, at [colours]int) [][colours]float32 {
	var l [][colours]float32
	for axis, n := range at {
		for _, next := range [...]int{n - 1, n + 1} {
			if next >= 0 && next < c.Size {
				to := at
				to[axis] = next
				l = append(l, entry(c, to))
			}
		}
	}
	return l
}

// softened is the entry at a place, drawn to its neighbours.
func softened(c api.Cube, at [colours]int) [colours]float32 {
	near := neighbours(c, at)
	sum := near[0] // not 0, to which nothing could be added that makes a -0 of it
	for _, v := range near[1:] {
		sum = each(sum, func(i int, s float32) float32 { return s + v[i] })
	}
	return each(entry(c, at), func(i int, v float32) float32 {
		return (float32(v*2) + sum[i]) / float32(2+len(near))
	})
}

// Smoothed is described in doc/05-cube.md.
func Smoothed(c api.Cube, times int) (api.Cube, api.Errno) {
	const most = 8
	if e := Check(c); e != api.OK {
		return api.Cube{}, e
	}
	if times < 0 || times > most {
		return api.Cube{}, api.ErrRange
	}
	s := build(c.Size, c.Low, c.High, func(at [colours]int) [colours]float32 { return entry(c, at) })
	for range times {
		s = build(s.Size, s.Low, s.High, func(at [colours]int) [colours]float32 { return softened(s, at) })
	}
	return s, api.OK
}

// distance is the square of that between an entry and p.
func distance(v, p [colours]float32) float32 {
	d := each(v, func(i int, w float32) float32 {
		d := w - p[i]
		return float32(d * d)
	})
	return d[0] + d[1] + d[2]
}

// nearest returns the place of the entry that is nearest to p, and whether there
// is any.
func nearest(c api.Cube, p [colours]float32) ([colours]int, bool) {
	var best [colours]int
	var least float32
	found := false
	for at := range places(c.Size) {
		d := distance(entry(c, at), p)
		if d == d && (!found || d < least) {
			best, least, found = at, d, true
		}
	}
	return best, found
}

// Nearest is described in doc/05-cube.md.
func Nearest(c api.Cube, p [3]float32) (int, int, int, api.Errno) {
	if e := Check(c); e != api.OK {
		return 0, 0, 0, e
	}
	at, found := nearest(c, p)
	if !found {
		return 0, 0, 0, api.ErrNone
	}
	return at[0], at[1], at[2], api.OK
}

// Back is described in doc/05-cube.md.
func Back(c api.Cube, p [3]float32, steps int) ([3]float32, api.Errno) {
	const most = 64
	if e := Check(c); e != api.OK {
		return [3]float32{}, e
	}
	if !areNumbers(p[:]...) {
		return [3]float32{}, api.ErrForm
	}
	if steps < 0 || steps > most {
		return [3]float32{}, api.ErrRange
	}
	at, found := nearest(c, p)
	if !found {
		return [3]float32{}, api.ErrNone
	}
	place := valuesAt(c, at, c.Size)
	for range steps {
		q := through(c, place)
		place = each(place, func(i int, x float32) float32 {
			return num.Limit(x+float32((p[i]-q[i])*0.5), c.Low, c.High)
		})
	}
	return place, api.OK
}
