package node_test

import (
	"slices"
	"testing"

	"dyehouse/api"
	"dyehouse/node"
)

// badGraphs are graphs of each error of CheckGraph, also those with several errors.
func badGraphs() []struct {
	graph api.Graph
	error api.Errno
} {
	good := graphOf(programOf(api.Graph{Nodes: []api.Node{{Op: "source", Ints: []int{0}}, {Op: "alpha", In: []int{0}}, {Op: "expose", In: []int{0}, Reals: []float32{1}}}, Out: 2}))
	with := func(at int, n api.Node) api.Graph {
		g := api.Graph{Nodes: slices.Clone(good.Nodes), Out: good.Out}
		g.Nodes[at] = n
		return g
	}
	out := func(n int) api.Graph { return api.Graph{Nodes: good.Nodes, Out: n} }
	expose := func(in int, v float32) api.Node { return api.Node{Op: "expose", In: []int{in}, Reals: []float32{v}} }
	fill := api.Node{Op: "fill", Reals: make([]float32, 4)}
	l := []struct {
		graph api.Graph
		error api.Errno
	}{
		{api.Graph{}, api.ErrEmpty}, {api.Graph{Nodes: []api.Node{}, Out: 1}, api.ErrEmpty},
		{api.Graph{Nodes: slices.Repeat([]api.Node{fill}, 101)}, api.ErrLarge},
		{api.Graph{Nodes: make([]api.Node, 101), Out: -1}, api.ErrLarge},
		{with(0, api.Node{}), api.ErrKind}, {with(2, api.Node{Op: "nosuch", In: []int{9}}), api.ErrKind},
		{with(1, api.Node{Op: "alpha"}), api.ErrForm}, {with(1, api.Node{Op: "alpha", In: []int{9, 9}}), api.ErrForm},
		{with(1, api.Node{Op: "alpha", In: []int{0}, Ints: []int{0}}), api.ErrForm}, {with(2, api.Node{Op: "expose", In: []int{9}}), api.ErrForm},
		{with(2, expose(1, nan())), api.ErrConflict}, {with(2, expose(0, nan())), api.ErrForm},
		{with(0, api.Node{Op: "source", Ints: []int{8}}), api.ErrRange}, {with(2, api.Node{Op: "luma", In: []int{0}, Reals: []float32{1, 0, 0}}), api.ErrOrder},
		{with(2, api.Node{Op: "mix", In: []int{1, 9}, Reals: []float32{0}}), api.ErrConflict}, {with(2, api.Node{Op: "mix", In: []int{9, 1}, Reals: []float32{0}}), api.ErrNone},
		{out(1), api.ErrConflict}, {out(3), api.ErrNone}, {out(-1), api.ErrNone},
	}
	for _, n := range append(badInts(), -1, 2, 3) {
		l = append(l, struct {
			graph api.Graph
			error api.Errno
		}{with(2, expose(n, nan())), api.ErrNone})
	}
	for _, n := range badInts() {
		l = append(l, struct {
			graph api.Graph
			error api.Errno
		}{out(n), api.ErrNone})
	}
	return l
}

func TestP179ErrorsOfGraphs(t *testing.T) {
	for _, c := range badGraphs() {
		g, w, r := c.graph, world{number: -1}, api.Region{}
		checkError(t, node.CheckGraph(g), c.error, g)
		margin, e := node.Margin(g)
		refused(t, margin, e, c.error, "Margin", g)
		l, e := node.Uses(g)
		refusedList(t, l, e, c.error, "Uses", g)
		l, e = node.Below(g, -1)
		refusedList(t, l, e, c.error, "Below", g)
		cost, e := node.Cost(g, r)
		refused(t, cost, e, c.error, "Cost", g)
		p, e := w.value(g, -1, 0, 0)
		refused(t, p, e, c.error, "Value", g)
		f, e := w.eval(g, r)
		refusedFrame(t, f, e, c.error, "Eval", g)
		f, e = w.tiled(g, r, 0, nil)
		refusedFrame(t, f, e, c.error, "Tiled", g)
		f, e = w.evalCut(g, nil, r)
		refusedFrame(t, f, e, c.error, "EvalCut", g)
		checkError(t, node.CheckCut(g, nil), c.error, "CheckCut", g)
		l, e = node.Fuse(g)
		refusedList(t, l, e, c.error, "Fuse", g)
		l, e = node.Stored(g, nil)
		refusedList(t, l, e, c.error, "Stored", g)
		keys, e := w.keys(g)
		refusedList(t, keys, e, c.error, "Keys", g)
	}
	l := slices.Repeat([]api.Node{{Op: "fill", Reals: make([]float32, 4)}}, 100)
	for _, out := range []int{0, 99} {
		checkError(t, node.CheckGraph(api.Graph{Nodes: l, Out: out}), api.OK, "100 nodes")
	}
}

func TestP179OrderOfNodes(t *testing.T) {
	for text, want := range map[string]string{
		// What goes in stands ahead, in its order, each once; what is not needed is left out.
		"a source 0\nb source 1\nx mix b a 0.5\nout x\n":                                                    "s0 source 1\ns1 source 0\ns2 mix s0 s1 0.5\nout s2\n",
		"a source 0\nb turn a 1\nc source 2\nd mix c b 2\ne mix b d 3\nout e\n":                             "s0 source 0\ns1 turn s0 1\ns2 source 2\ns3 mix s2 s1 2\ns4 mix s1 s3 3\nout s4\n",
		"a source 0\nb source 1\nm alpha b\nn window 3\no meet m n 2\np source 2\nx through p a o\nout x\n": "s0 source 2\ns1 source 0\ns2 source 1\ns3 alpha s2\ns4 window 3\ns5 meet s3 s4 2\ns6 through s0 s1 s5\nout s6\n",
		"a source 0\nb fill 1 2 3 4\nm alpha b\nc source 5\nout c\n":                                        "s0 source 5\nout s0\n",
		"a source 0\nb expose a 1\nout a\n":                                                                 "s0 source 0\nout s0\n",
		// Equal steps, and those that become equal.
		"a source 0\nb source 0\nx mix b a 0.5\nout x\n":                                                                    "s0 source 0\ns1 mix s0 s0 0.5\nout s1\n",
		"a source 0\nb source 0\nc turn a 1\nd turn b 1\ne combine d c 1\nout e\n":                                          "s0 source 0\ns1 turn s0 1\ns2 combine s1 s1 1\nout s2\n",
		"a source 0\nb expose a 0\nc turn a 1\nd turn b 1\ne combine d c 1\nout e\n":                                        "s0 source 0\ns1 turn s0 1\ns2 combine s1 s1 1\nout s2\n",
		"a fill 1 0 nan 4\nb fill 1 0 nan 4\nx combine a b 1\nout x\n":                                                      "s0 fill 1 0 nan 4\ns1 combine s0 s0 1\nout s1\n",
		"a fill 1 0 3 4\nb fill 1 -0 3 4\nx combine a b 1\nout x\n":                                                         "s0 fill 1 0 3 4\ns1 fill 1 -0 3 4\ns2 combine s0 s1 1\nout s2\n",
		"a source 0\nb saturate a 1\nc turn a 1\nx combine b c 1\nout x\n":                                                  "s0 source 0\ns1 saturate s0 1\ns2 turn s0 1\ns3 combine s1 s2 1\nout s3\n",
		"a source 0\nb source 1\nc turn a 1\nd turn b 1\nx combine c d 1\nout x\n":                                          "s0 source 0\ns1 turn s0 1\ns2 source 1\ns3 turn s2 1\ns4 combine s1 s3 1\nout s4\n",
		"a source 0\nm alpha a\nn spread m 2\no shrink m 2\np spread m 3\nq meet n o 1\nr meet q p 1\nx cover a r\nout x\n": "s0 source 0\ns1 alpha s0\ns2 spread s1 2\ns3 shrink s1 2\ns4 meet s2 s3 1\ns5 spread s1 3\ns6 meet s4 s5 1\ns7 cover s0 s6\nout s7\n",
		// Steps that change no bit.
		"a source 0\nb source 1\nx mix a b 0\nout x\n":                                           "s0 source 0\nout s0\n",
		"a source 0\nb source 1\nx mix a b -0\nout x\n":                                          "s0 source 0\nout s0\n",
		"a source 0\nb source 1\nx mix a b 1\nout x\n":                                           "s0 source 1\nout s0\n",
		"a source 0\nb source 1\nx mix a b 1.0000001\nout x\n":                                   "s0 source 0\ns1 source 1\ns2 mix s0 s1 1.0000001\nout s2\n",
		"a source 0\nb source 1\nx mix a b 1e-45\nout x\n":                                       "s0 source 0\ns1 source 1\ns2 mix s0 s1 1e-45\nout s2\n",
		"a source 0\nb expose a 0\nc expose b -0\nd blur c 0\nout d\n":                           "s0 source 0\nout s0\n",
		"a source 0\nb expose a 1\nc blur b 1\nd sharpen c 0 0\nout d\n":                         "s0 source 0\ns1 expose s0 1\ns2 blur s1 1\ns3 sharpen s2 0 0\nout s3\n",
		"a source 0\nm alpha a\nn spread m 0\no shrink n 0\np feather o 0\nx cover a p\nout x\n": "s0 source 0\ns1 alpha s0\ns2 cover s0 s1\nout s2\n",
		"a source 0\nb turn a 1\nc expose b 0\nx mix a c 1\ny mix c x 0.5\nout y\n":              "s0 source 0\ns1 turn s0 1\ns2 mix s1 s1 0.5\nout s2\n",
		"a source 0\nb saturate a 0\nc compress b 0\nd turn c 0\ne combine d d 1\nout e\n":       "s0 source 0\ns1 saturate s0 0\ns2 compress s1 0\ns3 turn s2 0\ns4 combine s3 s3 1\nout s4\n",
	} {
		g, e := node.Compile(parsed(t, text))
		checkGraph(t, g, e, linked(t, want), text)
		// Its nodes, as steps, are compiled to itself.
		again, e := node.Compile(programOf(g))
		checkGraph(t, again, e, g, text)
	}
}

// The reals of a graph are Clean, so steps are equal whichever NaN they have.
func TestP179CleanReals(t *testing.T) {
	fill := func(v float32) []float32 { return []float32{v, 1, 2, 3} }
	p := api.Program{Out: "x", Steps: []api.Step{
		{Name: "a", Op: "fill", Reals: fill(oddNaN())}, {Name: "b", Op: "fill", Reals: fill(single(0x7f800001))},
		{Name: "x", Op: "combine", In: []string{"a", "b"}, Ints: []int{1}},
	}}
	g, e := node.Compile(p)
	checkGraph(t, g, e, api.Graph{Nodes: []api.Node{{Op: "fill", Reals: fill(nan())}, {Op: "combine", In: []int{0, 0}, Ints: []int{1}}}, Out: 1}, p)
}

func TestP180MarginUsesBelow(t *testing.T) {
	text := "a source 3\nb blur a 5\nc sharpen a 1 0\nm luma b 0 1 0\nn spread m 2\no shrink n 3\np feather o 4\nd cover c p\ne source 1\nf blur e 16\ng source 3\nh mix d g 0.5\nout h\n"
	g := linked(t, text)
	for i, c := range []struct {
		margin int
		below  []int
	}{
		{0, []int{0}}, {5, []int{0, 1}}, {1, []int{0, 2}}, {5, []int{0, 1, 3}}, {7, []int{0, 1, 3, 4}}, {10, []int{0, 1, 3, 4, 5}},
		{14, []int{0, 1, 3, 4, 5, 6}}, {14, []int{0, 1, 2, 3, 4, 5, 6, 7}}, {0, []int{8}}, {16, []int{8, 9}}, {0, []int{10}},
		{14, []int{0, 1, 2, 3, 4, 5, 6, 7, 10, 11}},
	} {
		l, e := node.Below(g, i)
		checkInts(t, l, e, c.below, "Below", i)
		if g.Nodes[i].Op == "alpha" || formOf(g.Nodes[i].Op).Out == api.OutMatte {
			continue
		}
		g.Out = i
		margin, e := node.Margin(g)
		if margin != c.margin || e != api.OK {
			t.Error("Margin of", i, "is", margin, e)
		}
		l, e = node.Uses(g)
		checkInts(t, l, e, []int{1, 3}, "Uses", i)
	}
	for _, n := range append(badInts(), -1, 12) {
		l, e := node.Below(g, n)
		refusedList(t, l, e, api.ErrNone, "Below", n)
	}
	l, e := node.Uses(linked(t, "a source 7\nb source 0\nc source 7\nd mix a b 3\nout d\n"))
	checkInts(t, l, e, []int{0, 7}, "Uses")
	l, e = node.Uses(linked(t, "a fill 1 2 3 4\nout a\n"))
	checkInts(t, l, e, nil, "Uses")
}

// blurs is a source behind blurs of these radiuses.
func blurs(radiuses ...int) api.Graph {
	g := api.Graph{Nodes: []api.Node{{Op: "source", Ints: []int{0}}}, Out: len(radiuses)}
	for i, n := range radiuses {
		g.Nodes = append(g.Nodes, api.Node{Op: "blur", In: []int{i}, Ints: []int{n}})
	}
	return g
}

func TestP180GreatestMargin(t *testing.T) {
	for _, c := range []struct {
		graph  api.Graph
		margin int
	}{{blurs(), 0}, {blurs(0), 0}, {blurs(16, 16, 16, 16), 64}, {blurs(16, 16, 16, 0, 15), 63}} {
		margin, e := node.Margin(c.graph)
		if margin != c.margin || e != api.OK {
			t.Error("Margin of", c.graph, "is", margin, e)
		}
	}
	margin, e := node.Margin(blurs(16, 16, 1, 16, 16))
	refused(t, margin, e, api.ErrLarge, "Margin")
	// What Out does not need does not count.
	g := blurs(16, 16, 1, 16, 16)
	g.Out = 3
	margin, e = node.Margin(g)
	if margin != 33 || e != api.OK {
		t.Error("Margin is", margin, e)
	}
}

func TestP180Cost(t *testing.T) {
	for _, c := range []struct {
		text string
		w, h int
		want int
	}{
		{"a source 0\nout a\n", 3, 5, 15},
		{"a source 0\nb turn a 1\nout b\n", 3, 5, 30},
		{"a source 0\nb turn a 1\nout a\n", 3, 5, 15},
		{"a source 0\nb blur a 2\nout b\n", 3, 5, 15 + 7*9},
		{"a source 0\nb blur a 0\nout b\n", 3, 5, 30},
		{"a source 0\nb sharpen a 0 0\nc blur b 2\nout c\n", 1, 2, 2 + 5*6 + 7*8},
		{"a source 0\nb blur a 16\nc blur b 16\nd blur c 16\ne blur d 16\nf blur e 16\nout f\n", 1, 1, 1 + 33*33 + 65*65 + 97*97 + 129*129 + 161*161},
		{"a source 0\nm alpha a\nn spread m 1\no shrink n 2\np feather o 3\nq cover a p\nout q\n", 1, 1, 13*13 + 13*13 + 11*11 + 7*7 + 1 + 1},
	} {
		cost, e := node.Cost(linked(t, c.text), api.Region{X: 7, Y: -far, W: c.w, H: c.h})
		if cost != c.want || e != api.OK {
			t.Error("Cost of", c.text, "is", cost, e, "want", c.want)
		}
	}
	g := blurs(16, 16, 16, 16, 16) // not too far for its cost
	for _, r := range badRegions() {
		cost, e := node.Cost(g, r.Region)
		refused(t, cost, e, r.error, "Cost", r)
	}
}

// wantFar is how far the ways from one node to another one look, without the last
// node; -1, if there is none.
func wantFar(g api.Graph, from, to int) int {
	if from == to {
		return 0
	}
	far := -1
	for _, next := range g.Nodes[from].In {
		if rest := wantFar(g, next, to); rest >= 0 {
			far = max(far, rest+distance(g.Nodes[from]))
		}
	}
	return far
}

func TestP180AnyGraphs(t *testing.T) {
	m := mixer{}
	for range 500 {
		g, r := m.graph(m.from(1, 14), 16), m.region()
		want, cost := wantMargin(g, g.Out), 0
		var below, uses []int
		for i, n := range g.Nodes {
			if far := wantFar(g, g.Out, i); far >= 0 {
				cost += (r.W + 2*far) * (r.H + 2*far)
				below = append(below, i)
			}
			if n.Op == "source" && !slices.Contains(uses, n.Ints[0]) {
				uses = append(uses, n.Ints[0])
			}
		}
		slices.Sort(uses)
		margin, e := node.Margin(g)
		if want > 64 {
			refused(t, margin, e, api.ErrLarge, g)
		} else if margin != want || e != api.OK {
			t.Error("Margin of", g, "is", margin, e, "want", want)
		}
		l, e := node.Below(g, g.Out)
		checkInts(t, l, e, below, "Below", g)
		l, e = node.Uses(g)
		checkInts(t, l, e, uses, "Uses", g)
		got, e := node.Cost(g, r)
		if got != cost || e != api.OK {
			t.Error("Cost of", g, r, "is", got, e, "want", cost)
		}
	}
}

// A program with more ways from its result to its source than could ever be gone is
// compiled, and evaluated.
func TestP179ManyWays(t *testing.T) {
	g := api.Graph{Nodes: []api.Node{{Op: "source", Ints: []int{0}}}, Out: 99}
	for i := range 99 {
		g.Nodes = append(g.Nodes, api.Node{Op: "mix", In: []int{i, i}, Reals: []float32{0.5}})
	}
	got, e := node.Compile(programOf(g))
	checkGraph(t, got, e, g, "Compile")
	w := onePixelWorld(api.Pixel{0.25, 0.5, 0.75, 1})
	p, e := w.value(g, 99, 7, 7)
	checkError(t, e, api.OK, "Value")
	checkPixel(t, p, api.Pixel{0.25, 0.5, 0.75, 1}, "Value")
	cost, e := node.Cost(g, api.Region{W: 2, H: 3})
	if cost != 600 || e != api.OK {
		t.Error("Cost", cost, e)
	}
	for i := range 99 {
		g.Nodes[i+1].Reals = []float32{1}
	}
	got, e = node.Compile(programOf(g))
	checkGraph(t, got, e, api.Graph{Nodes: g.Nodes[:1]}, "Compile")
}
