package node

import (
	"slices"

	"dyehouse/api"
	"dyehouse/frame"
)

// plan is a graph, with the operations of its nodes.
type plan struct {
	api.Graph
	ops []operation
}

// checkMany is the error of a number of nodes.
func checkMany(n int) api.Errno {
	if n == 0 {
		return api.ErrEmpty
	}
	if n > api.MaxSteps {
		return api.ErrLarge
	}
	return api.OK
}

// add puts a node behind those that a plan has, if it has no error.
func (p *plan) add(n api.Node, byName map[string]operation) api.Errno {
	o, found := byName[n.Op]
	if !found {
		return api.ErrKind
	}
	if len(n.In) != len(o.in) || len(n.Ints) != len(o.ints) || len(n.Reals) != o.reals {
		return api.ErrForm
	}
	for i, from := range n.In {
		if e := p.checkKind(from, o.in[i]); e != api.OK {
			return e
		}
	}
	if e := o.checkParameters(n); e != api.OK {
		return e
	}
	p.Nodes, p.ops = append(p.Nodes, n), append(p.ops, o)
	return api.OK
}

// checkKind is the error of a number where one of a node of that kind is needed.
func (p *plan) checkKind(node, kind int) api.Errno {
	if node < 0 || node >= len(p.ops) {
		return api.ErrNone
	}
	if p.ops[node].out != kind {
		return api.ErrConflict
	}
	return api.OK
}

// planOf returns the plan of a graph.
func planOf(g api.Graph) (plan, api.Errno) {
	if e := checkMany(len(g.Nodes)); e != api.OK {
		return plan{}, e
	}
	var p plan
	byName := operations()
	for _, n := range g.Nodes {
		if e := p.add(n, byName); e != api.OK {
			return plan{}, e
		}
	}
	p.Out = g.Out
	return p, p.checkKind(p.Out, api.OutPicture)
}

// CheckGraph is described in doc/09-node.md.
func CheckGraph(g api.Graph) api.Errno {
	_, e := planOf(g)
	return e
}

// around returns for each node how far around a region its values are needed for
// those of the node out in the region: -1, if they are not needed.
func (p plan) around(out int) []int {
	far := slices.Repeat([]int{-1}, len(p.Nodes))
	far[out] = 0
	for i := out; i >= 0; i-- {
		if far[i] < 0 {
			continue
		}
		for _, from := range p.Nodes[i].In {
			far[from] = max(far[from], far[i]+p.ops[i].distance(p.Nodes[i]))
		}
	}
	return far
}

// margin is how far the node out looks, with all that goes into it.
func (p plan) margin(out int) int { return slices.Max(p.around(out)) }

// checkMargin is the error of a margin.
func checkMargin(margin int) api.Errno {
	if margin > api.MaxMargin {
		return api.ErrLarge
	}
	return api.OK
}

// Margin is described in doc/09-node.md.
func Margin(g api.Graph) (int, api.Errno) {
	p, e := planOf(g)
	if e != api.OK {
		return 0, e
	}
	margin := p.margin(p.Out)
	if e := checkMargin(margin); e != api.OK {
		return 0, e
	}
	return margin, api.OK
}

// Uses is described in doc/09-node.md.
func Uses(g api.Graph) ([]int, api.Errno) {
	if e := CheckGraph(g); e != api.OK {
		return nil, e
	}
	var used []int
	for _, n := range g.Nodes {
		if n.Op == sourceName {
			used = append(used, n.Ints[0])
		}
	}
	slices.Sort(used)
	return slices.Compact(used), api.OK
}

// Below is described in doc/09-node.md.
func Below(g api.Graph, node int) ([]int, api.Errno) {
	p, e := planOf(g)
	if e != api.OK {
		return nil, e
	}
	if node < 0 || node >= len(p.Nodes) {
		return nil, api.ErrNone
	}
	var below []int
	for i, far := range p.around(node) {
		if far >= 0 {
			below = append(below, i)
		}
	}
	return below, api.OK
}

// Cost is described in doc/09-node.md.
func Cost(g api.Graph, r api.Region) (int, api.Errno) {
	p, e := planOf(g)
	if e != api.OK {
		return 0, e
	}
	if e := frame.CheckRegion(r); e != api.OK {
		return 0, e
	}
	cost := 0
	for _, far := range p.around(p.Out) {
		if far >= 0 {
			cost += (r.W + 2*far) * (r.H + 2*far)
		}
	}
	return cost, api.OK
}
