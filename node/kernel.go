package node

import (
	"slices"

	"dyehouse/api"
)

// checkCut is the error of a cut of the graph.
func (p plan) checkCut(cut []int) api.Errno {
	if len(cut) != len(p.Nodes) {
		return api.ErrForm
	}
	for i, kernel := range cut {
		if kernel < 0 || kernel >= api.MaxSteps {
			return api.ErrRange
		}
		in := p.Nodes[i].In
		if slices.ContainsFunc(in, func(from int) bool { return cut[from] > kernel }) {
			return api.ErrOrder
		}
		if p.ops[i].reach != nil && slices.ContainsFunc(in, func(from int) bool { return cut[from] == kernel }) {
			return api.ErrConflict
		}
	}
	return api.OK
}

// planOfCut returns the plan of a graph, and the error of both.
func planOfCut(g api.Graph, cut []int) (plan, api.Errno) {
	p, e := planOf(g)
	if e != api.OK {
		return plan{}, e
	}
	return p, p.checkCut(cut)
}

// CheckCut is described in doc/09-node.md.
func CheckCut(g api.Graph, cut []int) api.Errno {
	_, e := planOfCut(g, cut)
	return e
}

// levels returns the cut with as few kernels as there can be.
func (p plan) levels() []int {
	levels := make([]int, len(p.Nodes))
	for i, n := range p.Nodes {
		for _, from := range n.In {
			levels[i] = max(levels[i], levels[from])
		}
		if p.ops[i].reach != nil {
			levels[i]++
		}
	}
	return levels
}

// Fuse is described in doc/09-node.md.
func Fuse(g api.Graph) ([]int, api.Errno) {
	p, e := planOf(g)
	if e != api.OK {
		return nil, e
	}
	return p.levels(), api.OK
}

// crossing says which nodes go into a node of another kernel.
func (p plan) crossing(cut []int) []bool {
	crosses := make([]bool, len(p.Nodes))
	for i, n := range p.Nodes {
		for _, from := range n.In {
			crosses[from] = crosses[from] || cut[from] != cut[i]
		}
	}
	return crosses
}

// Stored is described in doc/09-node.md.
func Stored(g api.Graph, cut []int) ([]int, api.Errno) {
	p, e := planOfCut(g, cut)
	if e != api.OK {
		return nil, e
	}
	var stored []int
	for i, crosses := range p.crossing(cut) {
		if crosses || i == p.Out {
			stored = append(stored, i)
		}
	}
	return stored, api.OK
}

// EvalCut is described in doc/09-node.md.
func EvalCut(g api.Graph, cut []int, l api.Library, s []api.Frame, number int, r api.Region) (api.Frame, api.Errno) {
	p, e := planOfCut(g, cut)
	if e != api.OK {
		return api.Frame{}, e
	}
	where := scene{l, s, number}
	if e := checkScene(p, where); e != api.OK {
		return api.Frame{}, e
	}
	if e := checkOver(p, r); e != api.OK {
		return api.Frame{}, e
	}
	return frameOf(courseOf(p, where, p.Out, cut), r), api.OK
}
