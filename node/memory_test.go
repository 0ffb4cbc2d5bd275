package node_test

import (
	"math"
	"reflect"
	"slices"
	"testing"

	"dyehouse/api"
	"dyehouse/node"
)

func sameSingle(v, w float32) bool { return math.Float32bits(v) == math.Float32bits(w) }

// watch notices changes of lists, also of their unused capacity.
type watch struct{ changed []func() bool }

// spare gives a list unused capacity, and watches it.
func spare[T any](w *watch, l []T, more T) []T {
	all := append(slices.Clone(l), more, more)
	was := slices.Clone(all)
	w.changed = append(w.changed, func() bool { return !reflect.DeepEqual(all, was) })
	return all[:len(l)]
}

// check tells of changes.
func (w *watch) check(t *testing.T, what string) {
	t.Helper()
	for i, is := range w.changed {
		if is() {
			t.Fatal(what, "changed list", i)
		}
	}
}

func (w *watch) graph(g api.Graph) api.Graph {
	for i, n := range g.Nodes {
		n.In, n.Ints, n.Reals = spare(w, n.In, -7), spare(w, n.Ints, -7), spare(w, n.Reals, -7)
		g.Nodes[i] = n
	}
	g.Nodes = spare(w, g.Nodes, api.Node{Op: "more"})
	return g
}

func (w *watch) program(p api.Program) api.Program {
	for i, s := range p.Steps {
		s.In, s.Ints, s.Reals = spare(w, s.In, "more"), spare(w, s.Ints, -7), spare(w, s.Reals, -7)
		p.Steps[i] = s
	}
	p.Steps = spare(w, p.Steps, api.Step{Name: "more"})
	return p
}

func (w *watch) world(v world) world {
	l := &v.library
	for i, list := range l.Grades {
		l.Grades[i] = spare(w, list, api.Grade{Kind: -7})
	}
	for i, c := range l.Cubes {
		l.Cubes[i].V = spare(w, c.V, -7)
	}
	for i, list := range l.Windows {
		for j, k := range list {
			list[j].Window.Points = spare(w, k.Window.Points, api.Point{X: -7})
		}
		l.Windows[i] = spare(w, list, api.KeyFrame{Frame: -7})
	}
	l.Grades, l.Cubes, l.Windows = spare(w, l.Grades, nil), spare(w, l.Cubes, api.Cube{Size: -7}), spare(w, l.Windows, nil)
	for i, f := range v.sources {
		v.sources[i].V = spare(w, f.V, -7)
	}
	v.sources = spare(w, v.sources, api.Frame{})
	return v
}

// checkOwn calls twice, and scribbles over the first result, with its unused
// capacity: neither what was handed in nor the second result may notice.
func checkOwn[T any](t *testing.T, w *watch, what string, call func() []T, scribble T) {
	t.Helper()
	first := call()
	was := slices.Clone(first)
	if len(was) == 0 {
		t.Error(what, "makes nothing")
	}
	first = first[:cap(first)]
	for i := range first {
		first[i] = scribble
	}
	if !reflect.DeepEqual(call(), was) {
		t.Error(what, "is not the same the second time")
	}
	w.check(t, what)
}

func TestP182MemoryIsNotShared(t *testing.T) {
	m, w := mixer{}, &watch{}
	v := m.world()
	r := api.Region{X: 1, Y: 1, W: 3, H: 2}
	v.sources[0] = frameOf(r, m.share)
	v.sources[1] = v.sources[0]
	v = w.world(v)
	for _, text := range []string{
		"a source 0\nout a\n", "a fill 1 2 3 4\nout a\n", "a source 0\nb grade a 0\nc grade b 1\nout c\n", "a source 0\nb cube a 0 1\nc cube b 1 2\nout c\n",
		"a source 0\nb blur a 0\nout b\n", "a source 0\nb blur a 2\nc sharpen b 1 0\nd mix c b 0.5\nout d\n", "a source 0\nm window 0\nn spread m 1\no feather n 1\np invert o\nq cover a p\nout q\n",
	} {
		g := w.graph(linked(t, text))
		cut, e := node.Fuse(g)
		checkError(t, e, api.OK, text)
		cut = spare(w, cut, -7)
		order := spare(w, []int{0}, -7)
		one := func(f api.Frame, e api.Errno) []float32 {
			checkError(t, e, api.OK, text)
			return f.V
		}
		checkOwn(t, w, "Eval of "+text, func() []float32 { return one(v.eval(g, r)) }, 77)
		checkOwn(t, w, "Tiled of "+text, func() []float32 {
			return one(v.tiled(g, api.Region{X: 1, Y: 1, W: 2, H: 2}, 256, order))
		}, 77)
		checkOwn(t, w, "EvalCut of "+text, func() []float32 { return one(v.evalCut(g, cut, r)) }, 77)
		ints := func(l []int, e api.Errno) []int {
			checkError(t, e, api.OK, text)
			return l
		}
		checkOwn(t, w, "Fuse of "+text, func() []int { return ints(node.Fuse(g)) }, -77)
		checkOwn(t, w, "Stored of "+text, func() []int { return ints(node.Stored(g, cut)) }, -77)
		checkOwn(t, w, "Below of "+text, func() []int { return ints(node.Below(g, g.Out)) }, -77)
		checkOwn(t, w, "Keys of "+text, func() []string { l, _ := v.keys(g); return l }, "none")
		v.value(g, g.Out, 3, 4)
		node.Cost(g, r)
		node.Margin(g)
		node.CheckGraph(g)
		w.check(t, text)
	}
	a, b := spare(w, []string{"a", "b"}, "more"), spare(w, []string{"c", "d"}, "more")
	checkOwn(t, w, "Changed", func() []int { l, _ := node.Changed(a, b); return l }, -77)
	g := w.graph(linked(t, "a source 1\nb source 0\nc source 1\nd mix a b 3\nout d\n"))
	checkOwn(t, w, "Uses", func() []int { l, _ := node.Uses(g); return l }, -77)
}

func TestP179MemoryIsNotShared(t *testing.T) {
	w := &watch{}
	p := w.program(parsed(t, "a source 0\nb fill 1 2 3 4\nc grain a 1 2 0 0.5 1\nd mix b c 0.5\ne combine d d 2\nf convert e 1 2\nout f\n"))
	want, e := node.Compile(p)
	checkError(t, e, api.OK, p)
	for i := range want.Nodes {
		got, _ := node.Compile(p)
		n := &got.Nodes[i]
		for _, l := range [][]int{n.In[:cap(n.In)], n.Ints[:cap(n.Ints)]} {
			for j := range l {
				l[j] = -77
			}
		}
		for j := range n.Reals[:cap(n.Reals)] {
			n.Reals[:cap(n.Reals)][j] = -77
		}
		// The other nodes have not noticed, and neither has the program.
		got.Nodes[i] = want.Nodes[i]
		checkGraph(t, got, api.OK, want, i)
		w.check(t, "Compile")
	}
	for range 2 {
		text, e := node.Print(p)
		checkText(t, text, api.OK, 0)
		checkError(t, e, api.OK, p)
		w.check(t, "Print")
	}
}

func TestP178MemoryIsNotShared(t *testing.T) {
	text := "a source 0\nb fill 1 2 3 4\nc grain a 1 2 0 0.5 1\nd mix b c 0.5\nout d\n"
	want := parsed(t, text)
	for i := range want.Steps {
		got := parsed(t, text)
		s := &got.Steps[i]
		for j := range s.In[:cap(s.In)] {
			s.In[:cap(s.In)][j] = "none"
		}
		for j := range s.Ints[:cap(s.Ints)] {
			s.Ints[:cap(s.Ints)][j] = -77
		}
		for j := range s.Reals[:cap(s.Reals)] {
			s.Reals[:cap(s.Reals)][j] = -77
		}
		got.Steps[i] = want.Steps[i]
		if !slices.EqualFunc(got.Steps, want.Steps, sameStep) {
			t.Error("Parse", got)
		}
	}
}

func TestP175MemoryIsNotShared(t *testing.T) {
	w := &watch{}
	checkOwn(t, w, "Ops", node.Ops, "none")
	for _, f := range forms() {
		if len(f.In) > 0 {
			checkOwn(t, w, "Op", func() []int { o, _ := node.Op(f.Name); return o.In }, -77)
		}
	}
	for i := range 3 {
		checkError(t, node.CheckLibrary(w.world(world{library: goodLibrary(i)}).library), api.OK, i)
		w.check(t, "CheckLibrary")
	}
}

// All that is made is Clean, whichever NaN went in.
func TestP181ResultsAreClean(t *testing.T) {
	p := api.Pixel{oddNaN(), single(0x7f800001), single(0xffc00000), oddNaN()}
	w := onePixelWorld(p)
	w.library = goodLibrary(1)
	w.library.Grades[0] = nil
	want := []float32{nan(), nan(), nan(), nan()}
	for _, text := range []string{
		"b source 0\n", "b fill nan nan nan nan\n", "b grade a 0\n", "b cube a 0 1\n", "b cube a 0 2\n", "b convert a 2 2\n", "b expose a 0\n", "b blur a 0\n", "b sharpen a 0 0\n", "b mix a a 0\n",
		"b mix a a 1\n", "b combine a a 1\n", "b compress a 0\n", "m alpha a\nn feather m 0\nb cover a n\n", "m alpha a\nn spread m 1\nb cover a n\n", "m alpha a\nn shrink m 1\nb cover a n\n",
	} {
		g := linked(t, "a source 0\n"+text+"out b\n")
		for i := range g.Nodes[1].Reals {
			if g.Nodes[1].Op == "fill" {
				g.Nodes[1].Reals[i] = p[i]
			}
		}
		r := api.Region{X: -1, W: 1, H: 1}
		got, e := w.eval(g, r)
		checkFrame(t, got, e, r, want, text)
		pixel, e := w.value(g, g.Out, 0, 0)
		checkError(t, e, api.OK, text)
		checkList(t, pixel[:], want, text)
	}
}
