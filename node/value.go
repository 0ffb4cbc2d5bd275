package node

import (
	"dyehouse/api"
	"dyehouse/frame"
)

// prepare returns the plan of a graph that has no error, neither itself nor for a
// scene.
func prepare(g api.Graph, s scene) (plan, api.Errno) {
	p, e := planOf(g)
	if e != api.OK {
		return plan{}, e
	}
	return p, checkScene(p, s)
}

// isPlaced says whether all places from one on, up to another one, grown by a
// margin, are some. The sums of any places could be beyond an int.
func isPlaced(from, to, margin int) bool {
	return from >= margin-api.MaxPlace && to <= api.MaxPlace-margin
}

// Value is described in doc/09-node.md.
func Value(g api.Graph, l api.Library, s []api.Frame, number, node, x, y int) (api.Pixel, api.Errno) {
	where := scene{l, s, number}
	p, e := prepare(g, where)
	if e != api.OK {
		return api.Pixel{}, e
	}
	if node < 0 || node >= len(p.Nodes) {
		return api.Pixel{}, api.ErrNone
	}
	margin := p.margin(node)
	if e := checkMargin(margin); e != api.OK {
		return api.Pixel{}, e
	}
	if !isPlaced(x, x, margin) || !isPlaced(y, y, margin) {
		return api.Pixel{}, api.ErrPlace
	}
	var value api.Pixel
	one := courseOf(p, where, node, p.levels()).over(api.Region{X: x, Y: y, W: 1, H: 1})
	copy(value[:], one.v)
	return value, api.OK
}

// checkOver is the error of a region for a plan.
func checkOver(p plan, r api.Region) api.Errno {
	if e := frame.CheckRegion(r); e != api.OK {
		return e
	}
	margin := p.margin(p.Out)
	if !isPlaced(r.X, r.X+r.W, margin) || !isPlaced(r.Y, r.Y+r.H, margin) {
		return api.ErrPlace
	}
	return api.OK
}

// frameOf returns the values of a course in a region of a frame.
func frameOf(c course, r api.Region) api.Frame {
	return api.Frame{Region: r, V: c.over(r).v}
}

// begin returns the course of a graph, with as few kernels as there can be, for a
// region; it has the errors of Eval.
func begin(g api.Graph, s scene, r api.Region) (course, api.Errno) {
	p, e := prepare(g, s)
	if e != api.OK {
		return course{}, e
	}
	if e := checkOver(p, r); e != api.OK {
		return course{}, e
	}
	return courseOf(p, s, p.Out, p.levels()), api.OK
}

// Eval is described in doc/09-node.md.
func Eval(g api.Graph, l api.Library, s []api.Frame, number int, r api.Region) (api.Frame, api.Errno) {
	c, e := begin(g, scene{l, s, number}, r)
	if e != api.OK {
		return api.Frame{}, e
	}
	return frameOf(c, r), api.OK
}

// isOrder says whether l has the numbers of many things, each once.
func isOrder(l []int, many int) bool {
	if len(l) != many {
		return false
	}
	had := make([]bool, many)
	for _, n := range l {
		if n < 0 || n >= many || had[n] {
			return false
		}
		had[n] = true
	}
	return true
}

// Tiled is described in doc/09-node.md.
func Tiled(g api.Graph, l api.Library, s []api.Frame, number int, r api.Region, side int, order []int) (api.Frame, api.Errno) {
	c, e := begin(g, scene{l, s, number}, r)
	if e != api.OK {
		return api.Frame{}, e
	}
	tiles, e := frame.Tiles(r, side)
	if e != api.OK {
		return api.Frame{}, e
	}
	if !isOrder(order, len(tiles)) {
		return api.Frame{}, api.ErrForm
	}
	var parts []api.Frame
	for _, i := range order {
		parts = append(parts, frameOf(c, tiles[i]))
	}
	return frame.Join(r, parts)
}
