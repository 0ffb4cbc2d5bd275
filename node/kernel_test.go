package node_test

import (
	"slices"
	"testing"

	"dyehouse/api"
	"dyehouse/node"
)

func TestP183ErrorsOfCuts(t *testing.T) {
	spoilers{}.cut().refuse(t, "CheckCut", func(c call, want api.Errno, what ...any) {
		checkError(t, node.CheckCut(c.graph, c.cut), want, what...)
		stored, e := node.Stored(c.graph, c.cut)
		if want == api.OK {
			checkError(t, e, want, what...)
			return
		}
		refusedList(t, stored, e, want, what...)
	})
	spoilers{}.cutEval().refuse(t, "EvalCut", framed(t, func(c call) (api.Frame, api.Errno) {
		return c.evalCut(c.graph, c.cut, c.region)
	}))
}

func TestP183Cuts(t *testing.T) {
	g := linked(t, "a source 0\nb blur a 1\nc mix a b 0.5\nd sharpen c 1 0\ne mix d a 0.5\nf blur e 0\nout e\n")
	for _, c := range []struct {
		cut   []int
		error api.Errno
	}{
		{[]int{0, 1, 1, 2, 2, 3}, api.OK}, {[]int{0, 1, 2, 3, 4, 5}, api.OK}, {[]int{3, 4, 7, 98, 98, 99}, api.OK}, {[]int{0, 50, 60, 99, 99, 99}, api.ErrConflict},
		// A blur looks around, even by nothing.
		{[]int{0, 1, 1, 2, 2, 2}, api.ErrConflict}, {[]int{0, 0, 1, 2, 2, 3}, api.ErrConflict}, {[]int{0, 1, 2, 2, 2, 3}, api.ErrConflict},
		{[]int{0, 1, 0, 2, 2, 3}, api.ErrOrder}, {[]int{1, 0, 1, 2, 2, 3}, api.ErrOrder}, {[]int{0, 1, 1, 2, 1, 3}, api.ErrOrder}, {[]int{3, 4, 4, 5, 2, 3}, api.ErrOrder},
		{[]int{0, 1, 1, 2, 2}, api.ErrForm}, {[]int{0, 1, 1, 2, 2, 3, 3}, api.ErrForm}, {nil, api.ErrForm},
		{[]int{0, 1, 1, 2, 2, 100}, api.ErrRange}, {[]int{-1, 1, 1, 2, 2, 3}, api.ErrRange},
		// The first bad node decides.
		{[]int{0, 0, 1, 2, 1, 100}, api.ErrConflict}, {[]int{1, 0, 0, 0, 0, -1}, api.ErrOrder}, {[]int{0, 100, 0, 0, 0, 0}, api.ErrRange},
		// Of one node: what goes into e has greater numbers, or its own.
		{[]int{0, 1, 1, 3, -1, 0}, api.ErrRange},
	} {
		checkError(t, node.CheckCut(g, c.cut), c.error, c.cut)
	}
	// What looks around goes into a kernel with what does not: the greater number of
	// several that go in decides ahead of the same one.
	two := linked(t, "a source 0\nb source 1\nm alpha b\nn spread m 1\no meet n m 1\np shrink o 2\nq cover a p\nout q\n")
	checkError(t, node.CheckCut(two, []int{0, 0, 0, 1, 1, 2, 2}), api.OK, "levels")
	checkError(t, node.CheckCut(two, []int{9, 0, 0, 1, 1, 2, 9}), api.OK, "a late source")
	checkError(t, node.CheckCut(two, []int{9, 0, 0, 1, 1, 2, 2}), api.ErrOrder, "a source that is too late")
}

func TestP183Fuse(t *testing.T) {
	for text, want := range map[string][]int{
		"a source 0\nout a\n": {0},
		"a source 0\nb turn a 1\nc fill 1 2 3 4\nd mix b c 0.5\nout d\n":                                                   {0, 0, 0, 0},
		"a source 0\nb blur a 0\nout b\n":                                                                                  {0, 1},
		"a source 0\nb blur a 1\nc mix a b 0.5\nd sharpen c 1 0\ne mix d a 0.5\nf blur e 1\ng sharpen a 0 0\nout e\n":      {0, 1, 1, 2, 2, 3, 1},
		"a source 0\nb source 1\nm alpha b\nn spread m 1\no meet n m 1\np shrink o 2\nq cover a p\nr feather p 1\nout q\n": {0, 0, 0, 1, 1, 2, 2, 3},
		"a source 0\nw window 1\nm alpha a\nx feather m 1\ny meet w x 1\nz through a a y\nv through a a w\nout z\n":        {0, 0, 0, 1, 1, 1, 0},
	} {
		g := linked(t, text)
		cut, e := node.Fuse(g)
		checkInts(t, cut, e, want, text)
		checkError(t, node.CheckCut(g, cut), api.OK, text)
	}
	l := make([]int, 99)
	cut, e := node.Fuse(blurs(l...)) // too many kernels for a margin, but not for a cut
	for i := range l {
		l[i] = i
	}
	checkInts(t, cut, e, append(l, 99), "99 blurs")
}

func TestP184Stored(t *testing.T) {
	g := linked(t, "a source 0\nb blur a 1\nc mix a b 0.5\nd sharpen c 1 0\ne mix d a 0.5\nf turn b 1\nout e\n")
	for _, c := range []struct{ cut, want []int }{
		{[]int{0, 1, 1, 2, 2, 1}, []int{0, 2, 4}},
		{[]int{0, 1, 2, 3, 4, 5}, []int{0, 1, 2, 3, 4}},
		{[]int{0, 1, 1, 2, 3, 1}, []int{0, 2, 3, 4}},
		{[]int{0, 1, 1, 2, 2, 7}, []int{0, 1, 2, 4}},
	} {
		stored, e := node.Stored(g, c.cut)
		checkInts(t, stored, e, c.want, c.cut)
	}
	g.Out = 2
	stored, e := node.Stored(g, []int{0, 1, 1, 2, 2, 1})
	checkInts(t, stored, e, []int{0, 2}, "what Out does not need is stored, too")
	g.Out = 0
	stored, e = node.Stored(g, []int{0, 1, 1, 2, 2, 1})
	checkInts(t, stored, e, []int{0, 2}, "Out is a source")
	stored, e = node.Stored(linked(t, "a source 0\nb turn a 1\nc turn b 1\nout b\n"), []int{3, 3, 3})
	checkInts(t, stored, e, []int{1}, "one kernel")
}

func TestP184StoredOfAnyCuts(t *testing.T) {
	m := mixer{}
	for range 500 {
		g := m.graph(m.from(1, 20), 16)
		cut := m.cut(g)
		var want []int
		for i := range g.Nodes {
			read := i == g.Out
			for j, n := range g.Nodes {
				read = read || cut[j] != cut[i] && slices.Contains(n.In, i)
			}
			if read {
				want = append(want, i)
			}
		}
		stored, e := node.Stored(g, cut)
		checkInts(t, stored, e, want, g, cut)
		// No cut has fewer kernels than levels, node by node.
		levels, e := node.Fuse(g)
		checkError(t, e, api.OK, g)
		checkError(t, node.CheckCut(g, levels), api.OK, g, levels)
		for i, level := range levels {
			if level > cut[i] {
				t.Error("Fuse has", levels, "where", cut, "is a cut of", g)
			}
		}
	}
}

func TestP184CutsHaveTheSameBits(t *testing.T) {
	m := mixer{}
	for range 150 {
		w, g := m.world(), m.near(m.from(2, 20), 3)
		region := m.regionWithin(wantMargin(g, g.Out))
		want, e := w.eval(g, region)
		checkError(t, e, api.OK, g)
		fused, _ := node.Fuse(g)
		alone := m.order(len(g.Nodes))
		slices.Sort(alone)
		for _, cut := range [][]int{m.cut(g), m.cut(g), fused, alone} {
			got, e := w.evalCut(g, cut, region)
			checkFrame(t, got, e, region, want.V, g, cut, region)
		}
	}
}

// Kernels are made in the order of their numbers, which need not be that of nodes.
func TestP184KernelsInOrder(t *testing.T) {
	m := mixer{}
	w := m.world()
	g := linked(t, "a source 0\nb blur a 2\nm alpha b\nc source 1\nd blur c 1\nn alpha d\ne through a c n\nf cover e m\nout f\n")
	region := api.Region{X: -5, Y: 3, W: 130, H: 40} // of several tiles
	want, e := w.eval(g, region)
	checkError(t, e, api.OK, "Eval")
	for _, cut := range [][]int{{90, 91, 91, 5, 7, 7, 95, 95}, {0, 99, 99, 97, 98, 98, 98, 99}, {10, 11, 12, 3, 6, 20, 30, 40}, {1, 2, 2, 1, 2, 2, 2, 2}} {
		got, e := w.evalCut(g, cut, region)
		checkFrame(t, got, e, region, want.V, cut)
	}
}
