package node_test

import (
	"slices"
	"strings"
	"testing"

	"dyehouse/api"
	"dyehouse/frame"
	"dyehouse/grade"
	"dyehouse/key"
	"dyehouse/node"
	"dyehouse/num"
)

// wantCompile compiles by texts: each node that is kept is the text of its
// operation, of all below it, and of its parameters.
func wantCompile(g api.Graph) api.Graph {
	var made api.Graph
	var had []string
	texts := make([]string, len(g.Nodes))
	stands := make([]int, len(g.Nodes))
	for i, n := range g.Nodes {
		stands[i] = i
		if from := stays(n); from >= 0 {
			texts[i], stands[i] = texts[n.In[from]], stands[n.In[from]]
			continue
		}
		words := []string{n.Op}
		for _, from := range n.In {
			words = append(words, texts[from])
		}
		for _, k := range n.Ints {
			words = append(words, num.Text(float32(k%1000)), num.Text(float32(k/1000)))
		}
		for _, v := range n.Reals {
			words = append(words, num.Hex(v))
		}
		texts[i] = "(" + strings.Join(words, " ") + ")"
	}
	var put func(i int)
	put = func(i int) {
		if slices.Contains(had, texts[i]) {
			return
		}
		n := cloned(g.Nodes[stands[i]])
		for _, from := range n.In {
			put(from)
		}
		for j, from := range n.In {
			n.In[j] = slices.Index(had, texts[from])
		}
		for j, v := range n.Reals {
			n.Reals[j] = single(clean(v))
		}
		made.Nodes, had = append(made.Nodes, n), append(had, texts[i])
	}
	put(g.Out)
	made.Out = len(had) - 1
	return made
}

// stays is what goes into a node and is what it has; -1, if there is none.
func stays(n api.Node) int {
	switch n.Op {
	case "mix":
		if n.Reals[0] == 0 || n.Reals[0] == 1 {
			return int(n.Reals[0])
		}
	case "expose":
		if n.Reals[0] == 0 {
			return 0
		}
	case "blur", "spread", "shrink", "feather":
		if n.Ints[0] == 0 {
			return 0
		}
	}
	return -1
}

// doubled returns a graph with more steps that can be left out.
func (m *mixer) doubled(g api.Graph) api.Graph {
	if len(g.Nodes) > 50 || wantMargin(g, g.Out) > 20 {
		return g
	}
	many := len(g.Nodes)
	for _, n := range g.Nodes[:many] {
		n = cloned(n)
		for i := range n.In {
			n.In[i] += many
		}
		g.Nodes = append(g.Nodes, n)
	}
	g.Nodes = append(g.Nodes, api.Node{Op: "combine", In: []int{g.Out, g.Out + many}, Ints: []int{m.from(1, 8)}})
	g.Out = len(g.Nodes) - 1
	return g
}

func TestP187CompiledGraphs(t *testing.T) {
	m := mixer{}
	for range 1500 {
		g := m.doubled(m.graph(m.from(1, 24), 2))
		p := programOf(g)
		got, e := node.Compile(p)
		checkGraph(t, got, e, wantCompile(g), p)
		checkError(t, node.CheckGraph(got), api.OK, got)
		text, e := node.Print(p)
		checkError(t, e, api.OK, p)
		again, e := node.Compile(parsed(t, text))
		checkGraph(t, again, e, got, text)
	}
}

// A graph that is compiled gives the bits of the program read step by step, with
// nothing left out.
func TestP187CompiledBits(t *testing.T) {
	m := mixer{}
	for range 100 {
		w, g := m.world(), m.doubled(m.near(m.from(2, 16), 2))
		margin := wantMargin(g, g.Out)
		region := m.regionWithin(margin)
		compiled, e := node.Compile(programOf(g))
		checkError(t, e, api.OK, g)
		got, e := w.eval(compiled, region)
		checkFrame(t, got, e, region, referenceOf(g, w).over(g.Out, region), g, region)
	}
}

// A graph in tiles of any size is the graph at once; so is any part of a region.
func TestP280TilesAndParts(t *testing.T) {
	m := mixer{}
	for range 100 {
		w, g := m.world(), m.near(m.from(2, 20), 3)
		region := m.regionWithin(wantMargin(g, g.Out))
		whole, e := w.eval(g, region)
		checkError(t, e, api.OK, g)
		side := m.from(1, 10)
		tiles, e := frame.Tiles(region, side)
		checkError(t, e, api.OK, side)
		got, e := w.tiled(g, region, side, m.order(len(tiles)))
		checkFrame(t, got, e, region, whole.V, g, region)
		part := api.Region{X: region.X + m.below(region.W), Y: region.Y + m.below(region.H)}
		part.W, part.H = m.from(1, region.X+region.W-part.X), m.from(1, region.Y+region.H-part.Y)
		want, e := frame.Cut(whole, part)
		checkError(t, e, api.OK, part)
		got, e = w.eval(g, part)
		checkFrame(t, got, e, part, want.V, g, region, part)
	}
}

// Every cut gives the same bits, and so does the program without anything left out.
func TestP281Cuts(t *testing.T) {
	m := mixer{}
	for range 100 {
		w, g := m.world(), m.doubled(m.near(m.from(2, 12), 3))
		region := m.regionWithin(wantMargin(g, g.Out))
		compiled, e := node.Compile(programOf(g))
		checkError(t, e, api.OK, g)
		want, e := w.eval(compiled, region)
		checkError(t, e, api.OK, g)
		for range 3 {
			cut := m.cut(compiled)
			got, e := w.evalCut(compiled, cut, region)
			checkFrame(t, got, e, region, want.V, compiled, cut, region)
			cut = m.cut(g)
			got, e = w.evalCut(g, cut, region)
			checkFrame(t, got, e, region, want.V, g, cut, region)
		}
	}
}

// changedParameter returns a node with one of its parameters changed, and whether
// it has some.
func (m *mixer) changedParameter(n api.Node) (api.Node, bool) {
	was := cloned(n)
	for range 100 {
		ints, reals := m.parameters(n.Op, 3)
		n = cloned(was)
		copy(n.Ints, ints)
		copy(n.Reals, reals)
		if !sameNode(n, was) && !slices.ContainsFunc(n.Reals, func(v float32) bool { return v != v }) {
			return n, true
		}
	}
	return was, false
}

// If a parameter of a node is changed, the keys of just the nodes that hang on it
// change.
func TestP282KeysOfWhatHangsOnIt(t *testing.T) {
	m := mixer{}
	for range 300 {
		w, g := m.world(), m.near(m.from(2, 20), 3)
		before, e := w.keys(g)
		checkError(t, e, api.OK, g)
		at := m.below(len(g.Nodes))
		n, some := m.changedParameter(g.Nodes[at])
		if !some {
			continue
		}
		// Whatever it was, a NaN may be what it becomes.
		changed := api.Graph{Nodes: slices.Clone(g.Nodes), Out: g.Out}
		changed.Nodes[at] = n
		if wantMargin(changed, g.Out) > 64 {
			continue
		}
		after, e := w.keys(changed)
		checkError(t, e, api.OK, changed)
		var want []int
		for i := range g.Nodes {
			if below, _ := node.Below(g, i); slices.Contains(below, at) {
				want = append(want, i)
			}
		}
		got, e := node.Changed(before, after)
		checkInts(t, got, e, want, g, at, n)
	}
}

// Nodes with equal keys have equal values, whatever they are evaluated with.
func TestP186EqualKeysEqualValues(t *testing.T) {
	m := mixer{}
	equal := 0
	for range 100 {
		g := m.doubled(m.near(m.from(2, 12), 2))
		had := map[string]api.Pixel{}
		for _, w := range []world{m.world(), m.world()} {
			keys, e := w.keys(g)
			checkError(t, e, api.OK, g)
			for i, k := range keys {
				if wantMargin(g, i) > 64 {
					continue
				}
				p, e := w.value(g, i, 3, -2)
				checkError(t, e, api.OK, g, i)
				if was, is := had[k]; is {
					checkPixel(t, p, was, g, i)
					equal++
				}
				had[k] = p
			}
		}
	}
	if equal < 100 {
		t.Error("only", equal, "keys are equal")
	}
}

// A frame that is graded within a window, by the packages themselves, is what a
// graph of nodes makes of it.
func TestP300GradedWithinWindow(t *testing.T) {
	m := mixer{}
	g := compiled(t, "a source 1\nb grade a 1\nw window 0\nx through a b w\nout x\n")
	for range 300 {
		w := m.world()
		f := w.sources[1]
		graded, e := grade.ApplyAll(w.library.Grades[1], f)
		checkError(t, e, api.OK, w)
		window, e := key.Between(w.library.Windows[0], w.number)
		checkError(t, e, api.OK, w)
		matte, e := key.WindowMatte(window, f.Region)
		checkError(t, e, api.OK, w)
		want, e := frame.Through(f, graded, matte)
		checkError(t, e, api.OK, w)
		got, e := w.eval(g, f.Region)
		checkFrame(t, got, e, f.Region, want.V, w)
	}
}
