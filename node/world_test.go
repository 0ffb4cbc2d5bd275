package node_test

import (
	"slices"
	"strconv"
	"strings"
	"testing"

	"dyehouse/api"
	"dyehouse/node"
)

// rows is the table of operations: name, kinds of what goes in, kind of what comes
// out, integers, reals, and whether they look around.
const rows = `source - p 1 0 -
fill - p 0 4 -
grade p p 1 0 -
cube p p 2 0 -
convert p p 2 0 -
saturate p p 0 1 -
turn p p 0 1 -
tone p p 1 2 -
expose p p 0 1 -
compress p p 0 1 -
grain p p 3 2 -
vignette p p 0 5 -
sharpen p p 0 2 area
blur p p 1 0 area
mix pp p 0 1 -
combine pp p 1 0 -
through ppm p 0 0 -
alpha p m 0 0 -
cover pm p 0 0 -
luma p m 0 3 -
hue p m 0 9 -
window - m 1 0 -
invert m m 0 0 -
meet mm m 1 0 -
spread m m 1 0 area
shrink m m 1 0 area
feather m m 1 0 area
`

// forms are those of the table.
func forms() []api.OpForm {
	kind := func(r rune) int { return strings.IndexRune("-pm", r) }
	var l []api.OpForm
	for line := range strings.Lines(rows) {
		words := strings.Fields(line)
		f := api.OpForm{Name: words[0], Out: kind(rune(words[2][0])), Area: words[5] == "area"}
		for _, r := range words[1] {
			if kind(r) != 0 {
				f.In = append(f.In, kind(r))
			}
		}
		f.Ints, _ = strconv.Atoi(words[3])
		f.Reals, _ = strconv.Atoi(words[4])
		l = append(l, f)
	}
	return l
}

// formOf is that of an operation.
func formOf(op string) api.OpForm {
	l := forms()
	return l[slices.IndexFunc(l, func(f api.OpForm) bool { return f.Name == op })]
}

// world is what a graph is evaluated with.
type world struct {
	library api.Library
	sources []api.Frame
	number  int
}

func (w world) value(g api.Graph, n, x, y int) (api.Pixel, api.Errno) {
	return node.Value(g, w.library, w.sources, w.number, n, x, y)
}

func (w world) eval(g api.Graph, r api.Region) (api.Frame, api.Errno) {
	return node.Eval(g, w.library, w.sources, w.number, r)
}

func (w world) tiled(g api.Graph, r api.Region, side int, order []int) (api.Frame, api.Errno) {
	return node.Tiled(g, w.library, w.sources, w.number, r, side, order)
}

func (w world) evalCut(g api.Graph, cut []int, r api.Region) (api.Frame, api.Errno) {
	return node.EvalCut(g, cut, w.library, w.sources, w.number, r)
}

func (w world) keys(g api.Graph) ([]string, api.Errno) {
	return node.Keys(g, w.library, w.sources, w.number)
}

// triple are three numbers from low to high.
func (m *mixer) triple(low, high float32) [3]float32 {
	return [3]float32{m.between(low, high), m.between(low, high), m.between(low, high)}
}

// one returns one of l.
func one[T any](m *mixer, l ...T) T { return l[m.below(len(l))] }

// grade returns a grade of any kind.
func (m *mixer) grade() api.Grade {
	g := api.Grade{Kind: m.from(1, 6)}
	switch g.Kind {
	case api.GradeWheels:
		g.Wheels = api.Wheels{Lift: m.triple(-0.2, 0.2), Gamma: m.triple(0.5, 2), Gain: m.triple(0.5, 2)}
	case api.GradeList:
		g.CDL = api.CDL{Slope: m.triple(0.5, 2), Offset: m.triple(-0.2, 0.2), Power: m.triple(0.5, 2), Saturation: m.between(0, 2)}
	case api.GradeCurves:
		for i := range g.Curves {
			if m.below(2) == 0 {
				g.Curves[i] = api.Curve{Kind: m.from(1, 2), X: []float32{0, 0.5, 1}, Y: listOf(3, m.share)}
			}
		}
	case api.GradeMixer:
		copy(g.Mixer.Rows[:], listOf(12, m.share))
	case api.GradeContrast:
		g.Pivot, g.Amount = m.share(), m.between(0.5, 2)
	case api.GradePrinter:
		g.Points = [3]int{m.from(0, 50), m.from(0, 50), m.from(0, 50)}
	}
	return g
}

// cube returns a small cube.
func (m *mixer) cube() api.Cube {
	size := m.from(2, 4)
	return api.Cube{Size: size, Low: m.between(-1, 0), High: m.between(0.5, 2), V: listOf(3*size*size*size, m.share)}
}

// keyFrames returns some of windows that are alike.
func (m *mixer) keyFrames() []api.KeyFrame {
	var l []api.KeyFrame
	kind, out, frame := m.from(1, 3), m.below(2) == 0, m.below(4)
	for range m.from(1, 3) {
		w := api.Window{Kind: kind, Out: out}
		if kind == api.WindowPolygon {
			for range 4 {
				w.Points = append(w.Points, api.Point{X: m.from(-9, 20), Y: m.from(-9, 20)})
			}
		} else {
			w.X, w.Y, w.W, w.H, w.Soft = m.between(-9, 20), m.between(-9, 20), m.between(1, 9), m.between(1, 9), m.between(0, 9)
		}
		l = append(l, api.KeyFrame{Frame: frame, Ease: m.from(1, 3), Window: w})
		frame += m.from(1, 9)
	}
	return l
}

// many returns n of what value makes.
func many[T any](n int, value func() T) []T {
	l := make([]T, n)
	for i := range l {
		l[i] = value()
	}
	return l
}

// world returns one with two or three things of each list, and with sources some of
// which have singles of any kind.
func (m *mixer) world() world {
	value := one(m, m.share, m.plain, m.wild)
	return world{
		library: api.Library{
			Grades:  many(m.from(2, 3), func() []api.Grade { return many(m.below(4), m.grade) }),
			Cubes:   many(m.from(2, 3), m.cube),
			Windows: many(m.from(2, 3), m.keyFrames),
		},
		sources: many(m.from(2, 3), func() api.Frame { return frameOf(m.region(), value) }),
		number:  m.below(20),
	}
}

// parameters returns some for an operation, with radiuses up to reach.
func (m *mixer) parameters(op string, reach int) ([]int, []float32) {
	switch op {
	case "source", "grade", "window":
		return []int{m.below(2)}, nil
	case "fill":
		return nil, listOf(4, m.wild)
	case "cube":
		return []int{m.below(2), m.from(1, 2)}, nil
	case "convert":
		return []int{m.below(6), m.below(6)}, nil
	case "saturate", "turn":
		return nil, []float32{m.plain()}
	case "expose", "mix":
		return nil, []float32{one(m, 0, minusZero(), 1, -1, m.share())}
	case "tone":
		kind := m.from(1, 3)
		return []int{kind}, []float32{m.between(0.5, 2), []float32{0, 0, m.between(2.5, 4), m.share()}[kind]}
	case "compress":
		return nil, []float32{m.between(0, 0.9)}
	case "grain":
		return []int{int(m.next()), m.from(1, 4), m.below(2)}, []float32{m.between(0, 4), m.between(0, 4)}
	case "vignette":
		return nil, []float32{m.between(-9, 20), m.between(-9, 20), m.between(0, 4), m.between(4.5, 30), m.share()}
	case "sharpen":
		return nil, []float32{m.between(0, 4), m.between(0, 0.2)}
	case "blur", "spread", "shrink", "feather":
		return []int{m.from(0, reach)}, nil
	case "combine":
		return []int{m.from(1, 8)}, nil
	case "meet":
		return []int{m.from(1, 4)}, nil
	case "luma":
		return nil, m.ramp()
	case "hue":
		return nil, slices.Concat([]float32{m.between(0, 0.99), m.between(0, 0.5), m.between(0, 0.5)}, m.ramp(), m.ramp())
	}
	return nil, nil
}

// ramp returns the three numbers of a ramp.
func (m *mixer) ramp() []float32 {
	low := m.between(-1, 1)
	return []float32{low, low + m.share(), m.share()}
}

// node returns one with an operation, behind nodes of such kinds, and whether all
// that it needs is there.
func (m *mixer) node(op string, kinds []int, reach int) (api.Node, bool) {
	n := api.Node{Op: op}
	n.Ints, n.Reals = m.parameters(op, reach)
	for _, kind := range formOf(op).In {
		var from []int
		for i, k := range kinds {
			if k == kind {
				from = append(from, i)
			}
		}
		if len(from) == 0 {
			return n, false
		}
		// The last ones are taken more often, so that graphs grow deep.
		n.In = append(n.In, from[max(m.below(len(from)), m.below(len(from)))])
	}
	return n, true
}

// graph returns one of up to that many nodes, with radiuses up to reach.
func (m *mixer) graph(most, reach int) api.Graph {
	g := api.Graph{Nodes: []api.Node{{Op: "source", Ints: []int{m.below(2)}}}}
	kinds := []int{api.OutPicture}
	for len(g.Nodes) < most {
		f := one(m, forms()...)
		n, good := m.node(f.Name, kinds, reach)
		if !good {
			continue
		}
		if f.Out == api.OutPicture {
			g.Out = len(g.Nodes)
		}
		g.Nodes, kinds = append(g.Nodes, n), append(kinds, f.Out)
		if m.below(8) == 0 {
			// An equal one, in memory of its own.
			g.Nodes, kinds = append(g.Nodes, cloned(n)), append(kinds, f.Out)
		}
	}
	return g
}

// near returns a graph as graph does, that does not look too far.
func (m *mixer) near(most, reach int) api.Graph {
	for {
		g := m.graph(most, reach)
		if wantMargin(g, g.Out) <= 20 {
			return g
		}
	}
}

// cloned returns a node with memory of its own.
func cloned(n api.Node) api.Node {
	n.In, n.Ints, n.Reals = slices.Clone(n.In), slices.Clone(n.Ints), slices.Clone(n.Reals)
	return n
}

// cut returns one that a graph may have.
func (m *mixer) cut(g api.Graph) []int {
	var cut []int
	many := one(m, 1, 1, 2, 5)
	for _, n := range g.Nodes {
		least := 0
		for _, from := range n.In {
			least = max(least, cut[from])
			if formOf(n.Op).Area {
				least = max(least, cut[from]+1)
			}
		}
		cut = append(cut, least+m.below(many))
	}
	return cut
}

// order returns the numbers below n in any order.
func (m *mixer) order(n int) []int {
	l := make([]int, n)
	for i := range l {
		j := m.below(i + 1)
		l[i], l[j] = l[j], i
	}
	return l
}

// nameOf is what programOf calls a node.
func nameOf(i int) string { return "s" + strconv.Itoa(i) }

// programOf is a program with a step for each node.
func programOf(g api.Graph) api.Program {
	p := api.Program{Out: nameOf(g.Out)}
	for i, n := range g.Nodes {
		s := api.Step{Name: nameOf(i), Op: n.Op, Ints: n.Ints, Reals: n.Reals}
		for _, from := range n.In {
			s.In = append(s.In, nameOf(from))
		}
		p.Steps = append(p.Steps, s)
	}
	return p
}

// distance is how far a node looks.
func distance(n api.Node) int {
	switch {
	case n.Op == "sharpen":
		return 1
	case formOf(n.Op).Area:
		return n.Ints[0]
	}
	return 0
}

// wantMargin is how far a node looks, with all that goes into it.
func wantMargin(g api.Graph, i int) int {
	var margins []int
	for j, n := range g.Nodes[:i+1] {
		margin := 0
		for _, from := range n.In {
			margin = max(margin, margins[from])
		}
		margins = append(margins, margin+distance(g.Nodes[j]))
	}
	return margins[i]
}

// parsed is the program of a text.
func parsed(t *testing.T, text string) api.Program {
	t.Helper()
	p, line, e := node.Parse(text)
	if e != api.OK {
		t.Fatal("Parse", text, line, e)
	}
	return p
}

// compiled is the graph of a text.
func compiled(t *testing.T, text string) api.Graph {
	t.Helper()
	g, e := node.Compile(parsed(t, text))
	if e != api.OK {
		t.Fatal("Compile", text, e)
	}
	return g
}

// linked is the graph of all steps of a text, of which nothing is left out.
func linked(t *testing.T, text string) api.Graph {
	t.Helper()
	p := parsed(t, text)
	numbers := map[string]int{}
	var g api.Graph
	for i, s := range p.Steps {
		n := api.Node{Op: s.Op, Ints: s.Ints, Reals: s.Reals}
		for _, name := range s.In {
			n.In = append(n.In, numbers[name])
		}
		g.Nodes = append(g.Nodes, n)
		numbers[s.Name] = i
	}
	g.Out = numbers[p.Out]
	return g
}

// sameGraph says whether two graphs are the same, with the bits of their reals.
func sameGraph(a, b api.Graph) bool {
	return a.Out == b.Out && slices.EqualFunc(a.Nodes, b.Nodes, sameNode)
}

func sameNode(a, b api.Node) bool {
	return a.Op == b.Op && slices.Equal(a.In, b.In) && slices.Equal(a.Ints, b.Ints) && slices.EqualFunc(a.Reals, b.Reals, sameSingle)
}

// checkGraph tells of a graph that is not want.
func checkGraph(t *testing.T, got api.Graph, e api.Errno, want api.Graph, what ...any) {
	t.Helper()
	if e != api.OK || !sameGraph(got, want) {
		t.Errorf("%v: got %v, error %d, want %v", what, got, e, want)
	}
}

// refusedGraph tells of a call that has not this error, or a result beside it.
func refusedGraph(t *testing.T, got api.Graph, e, want api.Errno, what ...any) {
	t.Helper()
	if e != want || got.Out != 0 || len(got.Nodes) != 0 {
		t.Errorf("%v: got %v, error %d, want %d", what, got, e, want)
	}
}
