package node

import (
	"slices"

	"dyehouse/api"
	"dyehouse/num"
)

// outWord stands in texts ahead of the step that is the result; no step has it as
// its name.
const outWord = "out"

// isName says whether a step may have that name.
func isName(name string) bool {
	if name == "" || len(name) > api.MaxName || name == outWord || !isLetter(name[0]) {
		return false
	}
	for i := range len(name) {
		b := name[i]
		if !isLetter(b) && (b < '0' || b > '9') && b != '_' {
			return false
		}
	}
	return true
}

func isLetter(b byte) bool { return b >= 'a' && b <= 'z' }

// names are the numbers of steps.
type names map[string]int

// number is that of a step, or -1.
func (l names) number(name string) int {
	if n, found := l[name]; found {
		return n
	}
	return -1
}

// node returns the node that a step becomes behind those with names.
func (l names) node(s api.Step) api.Node {
	n := api.Node{Op: s.Op, Ints: s.Ints, Reals: s.Reals}
	for _, name := range s.In {
		n.In = append(n.In, l.number(name))
	}
	return n
}

// planOfProgram returns the plan of all steps of a program, in their order.
func planOfProgram(program api.Program) (plan, api.Errno) {
	if e := checkMany(len(program.Steps)); e != api.OK {
		return plan{}, e
	}
	var p plan
	numbers, byName := names{}, operations()
	for i, s := range program.Steps {
		if !isName(s.Name) {
			return plan{}, api.ErrName
		}
		if numbers.number(s.Name) >= 0 {
			return plan{}, api.ErrTwice
		}
		if e := p.add(numbers.node(s), byName); e != api.OK {
			return plan{}, e
		}
		numbers[s.Name] = i
	}
	p.Out = numbers.number(program.Out)
	return p, p.checkKind(p.Out, api.OutPicture)
}

// CheckProgram is described in doc/09-node.md.
func CheckProgram(p api.Program) api.Errno {
	_, e := planOfProgram(p)
	return e
}

// compiler makes a graph of the nodes of a plan that are needed.
type compiler struct {
	plan
	kept   []api.Node
	places map[int]int // where nodes of the plan stand among those that are kept
}

// Compile is described in doc/09-node.md.
func Compile(p api.Program) (api.Graph, api.Errno) {
	all, e := planOfProgram(p)
	if e != api.OK {
		return api.Graph{}, e
	}
	c := compiler{plan: all, places: map[int]int{}}
	out := c.need(all.Out)
	return api.Graph{Nodes: c.kept, Out: out}, api.OK
}

// need returns the place of a node of the plan, behind all that goes into it.
func (c *compiler) need(i int) int {
	place, done := c.places[i]
	if !done {
		place = c.put(i)
		c.places[i] = place
	}
	return place
}

// put returns the place of a node that was not needed before.
func (c *compiler) put(i int) int {
	n := c.Nodes[i]
	if from, stays := c.ops[i].unchanged(n); stays {
		return c.need(n.In[from])
	}
	made := api.Node{Op: n.Op, Ints: slices.Clone(n.Ints)}
	for _, from := range n.In {
		made.In = append(made.In, c.need(from))
	}
	for _, v := range n.Reals {
		made.Reals = append(made.Reals, num.Clean(v))
	}
	equal := slices.IndexFunc(c.kept, func(n api.Node) bool { return areEqual(n, made) })
	if equal >= 0 {
		return equal
	}
	c.kept = append(c.kept, made)
	return len(c.kept) - 1
}

// areEqual says whether two nodes have equal values by what they are.
func areEqual(a, b api.Node) bool {
	return a.Op == b.Op && slices.Equal(a.In, b.In) && slices.Equal(a.Ints, b.Ints) &&
		slices.EqualFunc(a.Reals, b.Reals, func(v, w float32) bool { return num.Bits(v) == num.Bits(w) })
}
