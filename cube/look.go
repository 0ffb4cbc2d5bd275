package cube

import (
	"cmp"
	"slices"

	"dyehouse/api"
	"dyehouse/frame"
	"dyehouse/num"
)

// Singles of a pixel, and where its alpha is.
const (
	channels = 4
	alpha    = 3
)

// spot is where a colour lies on the axes of a cube: in which cell, and how far
// into it.
type spot struct {
	cell  [colours]int
	share [colours]float32
}

// way makes a colour of the entries around a spot of a cube that has no error.
type way func(c api.Cube, s spot) [colours]float32

// wayOf returns the way of that kind, or nil.
func wayOf(how int) way {
	switch how {
	case api.CubeTetra:
		return tetra
	case api.CubeLinear:
		return linear
	}
	return nil
}

// tetra goes from the corner of a cell to the far one, first along the axis of
// the greatest share.
func tetra(c api.Cube, in spot) [colours]float32 {
	axes := [colours]int{0, 1, 2}
	slices.SortStableFunc(axes[:], func(i, j int) int { return cmp.Compare(in.share[j], in.share[i]) })
	s, t, u := in.share[axes[0]], in.share[axes[1]], in.share[axes[2]]
	at := in.cell
	corner := entry(c, at)
	var steps [colours][colours]float32
	for i, axis := range axes {
		at[axis]++
		steps[i] = entry(c, at)
	}
	switch {
	case s == 0:
		return corner
	case s == 1 && t == 0:
		return steps[0]
	case t == 1 && u == 0:
		return steps[1]
	case u == 1:
		return steps[2]
	}
	return each(corner, func(i int, a float32) float32 {
		b, c, d := steps[0][i], steps[1][i], steps[2][i]
		return a + float32((b-a)*s) + float32((c-b)*t) + float32((d-c)*u)
	})
}

// lerp is num.Lerp of three values.
func lerp(a, b [colours]float32, t float32) [colours]float32 {
	return each(a, func(i int, v float32) float32 { return num.Lerp(v, b[i], t) })
}

// linear goes from all corners of a cell to one colour, axis by axis.
func linear(c api.Cube, in spot) [colours]float32 {
	var corners [1 << colours][colours]float32
	for n := range corners {
		at := in.cell
		for axis := range at {
			at[axis] += n >> axis & 1
		}
		corners[n] = entry(c, at)
	}
	left := len(corners)
	for _, share := range in.share {
		// The lowest bit of numbers is that of the axis, then that of the next one.
		left /= 2
		for n := range left {
			corners[n] = lerp(corners[2*n], corners[2*n+1], share)
		}
	}
	return corners[0]
}

// looked returns what c, which has no error, makes of p in that way.
func looked(c api.Cube, how way, p api.Pixel) api.Pixel {
	q := api.Pixel{alpha: num.Clean(p[alpha])}
	var in spot
	for i, v := range p[:colours] {
		if v != v {
			v = num.Clean(v)
			return api.Pixel{v, v, v, q[alpha]}
		}
		in.cell[i], in.share[i] = Place(c, v)
	}
	for i, v := range how(c, in) {
		q[i] = num.Clean(v)
	}
	return q
}

// Tetra is described in doc/05-cube.md.
func Tetra(c api.Cube, p api.Pixel) (api.Pixel, api.Errno) {
	if e := Check(c); e != api.OK {
		return api.Pixel{}, e
	}
	return looked(c, tetra, p), api.OK
}

// Linear is described in doc/05-cube.md.
func Linear(c api.Cube, p api.Pixel) (api.Pixel, api.Errno) {
	if e := Check(c); e != api.OK {
		return api.Pixel{}, e
	}
	return looked(c, linear, p), api.OK
}

// Apply is described in doc/05-cube.md.
func Apply(c api.Cube, how int, f api.Frame) (api.Frame, api.Errno) {
	if e := Check(c); e != api.OK {
		return api.Frame{}, e
	}
	chosen := wayOf(how)
	if chosen == nil {
		return api.Frame{}, api.ErrKind
	}
	g, e := frame.Clean(f)
	if e != api.OK {
		return api.Frame{}, e
	}
	for i := 0; i < len(g.V); i += channels {
		p, _ := frame.Take(g.V[i:])
		p = looked(c, chosen, p)
		copy(g.V[i:], p[:])
	}
	return g, api.OK
}
