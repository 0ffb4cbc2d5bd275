package node_test

import (
	"slices"
	"testing"

	"dyehouse/api"
	"dyehouse/frame"
	"dyehouse/node"
)

// call has all that functions of this chapter are called with.
type call struct {
	graph api.Graph
	world
	node, x, y int
	region     api.Region
	side       int
	order, cut []int
}

// Nodes of goodCall's graph.
const (
	sourceNode = iota
	gradeNode
	cubeNode
	windowNode
	coverNode
	spreadNode
	outNode
	firstBlur
	lastBlur = firstBlur + 4
)

// goodCall returns one without errors. Its graph looks 3 pixels around its result,
// but its last node too far.
func goodCall() call {
	g := api.Graph{Out: outNode, Nodes: []api.Node{
		sourceNode: {Op: "source", Ints: []int{1}},
		gradeNode:  {Op: "grade", In: []int{0}, Ints: []int{1}},
		cubeNode:   {Op: "cube", In: []int{1}, Ints: []int{1, 1}},
		windowNode: {Op: "window", Ints: []int{1}},
		coverNode:  {Op: "cover", In: []int{2, 3}},
		spreadNode: {Op: "spread", In: []int{3}, Ints: []int{3}},
		outNode:    {Op: "cover", In: []int{4, 5}},
	}}
	for i := range 5 {
		g.Nodes = append(g.Nodes, api.Node{Op: "blur", In: []int{[]int{sourceNode, 7, 8, 9, 10}[i]}, Ints: []int{16}})
	}
	m := mixer{}
	r := api.Region{X: 10, Y: 20, W: 4, H: 3}
	return call{
		graph: g,
		world: world{library: goodLibrary(2), sources: []api.Frame{frameOf(r, m.share), frameOf(r, m.share)}},
		node:  outNode, region: r, side: 2,
		order: []int{3, 2, 1, 0}, cut: []int{0, 0, 0, 0, 0, 1, 1, 1, 2, 3, 4, 5},
	}
}

// spoiler makes a call have an error.
type spoiler struct {
	what  string
	spoil func(c *call)
	error api.Errno
}

// library are the errors of libraries; here and below those that stand ahead of
// others have their errors ahead of theirs.
func (l spoilers) library() spoilers {
	for _, b := range badLibraries() {
		l = append(l, spoiler{b.what, func(c *call) { b.spoil(&c.library) }, b.error})
	}
	return l
}

type spoilers []spoiler

// scene are the errors of Value up to Margin's.
func (l spoilers) scene() spoilers {
	l = l.library()
	l = append(l, spoiler{"9 sources", func(c *call) { c.sources = slices.Repeat([]api.Frame{{}}, 9) }, api.ErrLarge})
	for _, b := range badFrames() {
		l = append(l, spoiler{"a bad source", func(c *call) {
			c.sources = append(slices.Clone(c.sources), api.Frame{})
			c.sources[1] = b.frame
		}, b.error})
	}
	for _, i := range []int{sourceNode, gradeNode, cubeNode, windowNode} {
		l = append(l, spoiler{"nothing there for " + nameOf(i), func(c *call) {
			c.graph.Nodes[i].Ints[0] = 2
			if i == sourceNode && len(c.sources) > 2 {
				c.graph.Nodes[i].Ints[0] = 7
			}
		}, api.ErrNone})
	}
	for _, n := range append(badInts(), -1, 1<<24+1) {
		l = append(l, spoiler{"a bad number", func(c *call) { c.number = n }, api.ErrRange})
	}
	return append(l, spoiler{"too great a margin", func(c *call) { c.graph.Out = lastBlur }, api.ErrLarge})
}

// value are the errors of Value.
func (l spoilers) value() spoilers {
	l = l.scene()
	for _, n := range append(badInts(), -1, lastBlur+1) {
		l = append(l, spoiler{"no such node", func(c *call) { c.node = n }, api.ErrNone})
	}
	l = append(l, spoiler{"too great a margin of the node", func(c *call) { c.node = lastBlur }, api.ErrLarge})
	for _, n := range append(badInts(), -far-1, far+1, -far+2, far-2) {
		l = append(l, spoiler{"no such x", func(c *call) { c.x = n }, api.ErrPlace}, spoiler{"no such y", func(c *call) { c.y = n }, api.ErrPlace})
	}
	return l
}

// eval are the errors of Eval.
func (l spoilers) eval() spoilers {
	l = l.scene()
	for _, r := range badRegions() {
		l = append(l, spoiler{"a bad region", func(c *call) { c.region = r.Region }, r.error})
	}
	for _, n := range []int{-far, -far + 2} {
		l = append(l, spoiler{"too far to the left", func(c *call) { c.region = api.Region{X: n, W: 1, H: 1} }, api.ErrPlace},
			spoiler{"too far up", func(c *call) { c.region = api.Region{Y: n, W: 1, H: 1} }, api.ErrPlace},
			spoiler{"too far to the right", func(c *call) { c.region = api.Region{X: -n - 4, W: 4, H: 1} }, api.ErrPlace},
			spoiler{"too far down", func(c *call) { c.region = api.Region{Y: -n - 4, W: 1, H: 4} }, api.ErrPlace})
	}
	return l
}

// tiled are the errors of Tiled.
func (l spoilers) tiled() spoilers {
	l = l.eval()
	for _, n := range append(badInts(), 0, -1, 257) {
		l = append(l, spoiler{"a bad side", func(c *call) { c.side = n }, api.ErrRange})
	}
	for _, order := range [][]int{nil, {0, 1, 2}, {0, 1, 2, 3, 4}, {0, 1, 2, 3, 3}, {0, 1, 2, 2}, {0, 1, 2, 4}, {0, 1, 2, -1}, {1, 2, 3, 4}, {0, 0, 0, 0}} {
		l = append(l, spoiler{"a bad order", func(c *call) { c.order = order }, api.ErrForm})
	}
	return l
}

// cut are the errors of CheckCut.
func (l spoilers) cut() spoilers {
	for _, many := range []int{0, 1, lastBlur, lastBlur + 2} {
		l = append(l, spoiler{"a cut without its form", func(c *call) { c.cut = slices.Repeat([]int{-1}, many) }, api.ErrForm})
	}
	set := func(what string, at, n int, e api.Errno) {
		l = append(l, spoiler{what, func(c *call) {
			if len(c.cut) == lastBlur+1 {
				c.cut[at] = n
			}
		}, e})
	}
	for _, n := range append(badInts(), -1, 100) {
		set("a bad kernel", 0, n, api.ErrRange)
	}
	set("a source behind its grade", 0, 1, api.ErrOrder)
	set("a window behind its spread", windowNode, 1, api.ErrOrder)
	set("a spread in the kernel of its window", spreadNode, 0, api.ErrConflict)
	return l
}

// cutEval are the errors of EvalCut.
func (l spoilers) cutEval() spoilers { return append(l.cut(), l.eval()...) }

// refuse tells of errors of a function that are not these, also of each two of them.
func (l spoilers) refuse(t *testing.T, name string, refused func(c call, want api.Errno, what ...any)) {
	t.Helper()
	refused(goodCall(), api.OK, name)
	for i, first := range l {
		c := goodCall()
		first.spoil(&c)
		refused(c, first.error, name, first.what)
		for _, second := range l[i+1:] {
			c := goodCall()
			second.spoil(&c)
			first.spoil(&c)
			refused(c, first.error, name, first.what, second.what)
		}
	}
}

func TestP181ErrorsOfValue(t *testing.T) {
	spoilers{}.value().refuse(t, "Value", func(c call, want api.Errno, what ...any) {
		p, e := c.value(c.graph, c.node, c.x, c.y)
		if want == api.OK {
			checkError(t, e, want, what...)
			return
		}
		refused(t, p, e, want, what...)
	})
}

// framed is for functions whose results are frames.
func framed(t *testing.T, made func(c call) (api.Frame, api.Errno)) func(c call, want api.Errno, what ...any) {
	return func(c call, want api.Errno, what ...any) {
		t.Helper()
		f, e := made(c)
		if want == api.OK {
			checkFrame(t, f, e, c.region, f.V, what...)
			return
		}
		refusedFrame(t, f, e, want, what...)
	}
}

func TestP182ErrorsOfEval(t *testing.T) {
	spoilers{}.eval().refuse(t, "Eval", framed(t, func(c call) (api.Frame, api.Errno) { return c.eval(c.graph, c.region) }))
	spoilers{}.tiled().refuse(t, "Tiled", framed(t, func(c call) (api.Frame, api.Errno) {
		return c.tiled(c.graph, c.region, c.side, c.order)
	}))
}

func TestP181Places(t *testing.T) {
	m := mixer{}
	c := goodCall()
	r := referenceOf(c.graph, c.world)
	for _, n := range []int{sourceNode, coverNode, spreadNode, outNode, firstBlur} {
		margin := wantMargin(c.graph, n)
		for _, x := range []int{-far + margin, far - margin, 12} {
			for _, y := range []int{-far + margin, far - margin, 21} {
				got, e := c.value(c.graph, n, x, y)
				checkError(t, e, api.OK, n, x, y)
				checkPixel(t, got, r.at(n, x, y), n, x, y)
			}
			for _, beyond := range []int{-far + margin - 1, far - margin + 1} {
				got, e := c.value(c.graph, n, x, beyond)
				refused(t, got, e, api.ErrPlace, n, x, beyond)
				got, e = c.value(c.graph, n, beyond, x)
				refused(t, got, e, api.ErrPlace, n, beyond, x)
			}
		}
	}
	// Also where operations hang on the place.
	for _, op := range []string{"grain", "vignette", "window"} {
		for range 50 {
			w, g := m.world(), m.alone(op)
			last := len(g.Nodes) - 1
			g.Nodes[last] = distant(&m, g.Nodes[last])
			r := referenceOf(g, w)
			for _, at := range []api.Point{{X: far, Y: far}, {X: -far, Y: far}, {X: far, Y: -far}, {X: far, Y: m.from(-9, 9)}, {X: m.from(-9, 9), Y: far}} {
				got, e := w.value(g, last, at.X, at.Y)
				checkError(t, e, api.OK, op, at)
				checkPixel(t, got, r.at(last, at.X, at.Y), op, g.Nodes[last], at)
			}
		}
	}
}

// distant lets a vignette reach the farthest places.
func distant(m *mixer, n api.Node) api.Node {
	if n.Op == "vignette" {
		n.Reals = []float32{m.between(-far, far), m.between(-far, far), m.between(0, 100000), m.between(1e6, 4e6), m.share()}
	}
	return n
}

func TestP181NumbersOfFrames(t *testing.T) {
	c := goodCall()
	for _, c.number = range []int{0, 1, 1 << 24} {
		_, e := c.value(c.graph, c.node, 0, 0)
		checkError(t, e, api.OK, c.number)
	}
}

// Eight sources are not too many, and all are looked at.
func TestP181ManySources(t *testing.T) {
	var s []api.Frame
	for i := range 8 {
		s = append(s, frameOf(api.Region{W: 1, H: 1}, func() float32 { return float32(i) }))
	}
	for i := range 8 {
		g := api.Graph{Nodes: []api.Node{{Op: "source", Ints: []int{i}}}}
		got, e := world{sources: s}.value(g, 0, 5, 5)
		n := float32(i)
		checkError(t, e, api.OK, i)
		checkPixel(t, got, api.Pixel{n, n, n, n}, i)
		got, e = world{sources: s[:i]}.value(g, 0, 5, 5)
		refused(t, got, e, api.ErrNone, i)
	}
}

func TestP181ValuesOfAnyGraphs(t *testing.T) {
	m := mixer{}
	for range 150 {
		w, g := m.world(), m.near(m.from(2, 20), 3)
		r := referenceOf(g, w)
		for i := range g.Nodes {
			if wantMargin(g, i) > 20 {
				continue
			}
			x, y := m.from(-25, 25), m.from(-25, 25)
			got, e := w.value(g, i, x, y)
			checkError(t, e, api.OK, g, i)
			checkPixel(t, got, r.at(i, x, y), g, i, x, y)
		}
	}
}

func TestP182FramesOfAnyGraphs(t *testing.T) {
	m := mixer{}
	for range 120 {
		w, g := m.world(), m.near(m.from(2, 20), 3)
		region := m.regionWithin(wantMargin(g, g.Out))
		got, e := w.eval(g, region)
		checkFrame(t, got, e, region, referenceOf(g, w).over(g.Out, region), g, region)
	}
}

// Regions of the greatest sizes are evaluated, with the greatest margin, also at the
// edges of all places.
func TestP182LargeRegions(t *testing.T) {
	m := mixer{}
	w := m.world()
	g := linked(t, "a source 0\nm window 1\nb spread m 16\nc cover a b\nd vignette c 0 0 5 300 0.5\ne grain d 5 3 0 1 0.5\nf sharpen e 1 0\ng source 1\nh through g f b\nout h\n")
	r := referenceOf(g, w)
	for _, region := range []api.Region{{X: -128, Y: -9, W: 256, H: 64}, {X: 3, Y: -200, W: 64, H: 256}, {X: -64, Y: -64, W: 128, H: 128}, {X: -256, Y: 20, W: 256, H: 1}} {
		got, e := w.eval(g, region)
		if e != api.OK || got.Region != region || len(got.V) != 4*region.W*region.H {
			t.Fatal("Eval", got.Region, e)
		}
		for range 60 {
			x, y := region.X+m.below(region.W), region.Y+m.below(region.H)
			checkList(t, got.V[4*((y-region.Y)*region.W+x-region.X):][:4], pixelsOf(api.Region{X: x, Y: y, W: 1, H: 1}, func(x, y int) api.Pixel { return r.at(g.Out, x, y) }), region, x, y)
		}
	}
	deep := blurs(16, 16, 16, 16)
	for _, region := range []api.Region{{X: -far + 64, Y: far - 3 - 64, W: 2, H: 3}, {X: far - 2 - 64, Y: -far + 64, W: 2, H: 3}} {
		got, e := w.eval(deep, region)
		checkError(t, e, api.OK, region)
		p, e := w.value(deep, 4, region.X+1, region.Y+2)
		checkError(t, e, api.OK, region)
		checkList(t, got.V[20:], p[:], region)
	}
}

func TestP182TilesInAnyOrder(t *testing.T) {
	m := mixer{}
	for range 150 {
		w, g := m.world(), m.near(m.from(2, 16), 3)
		region := m.regionWithin(wantMargin(g, g.Out))
		want, e := w.eval(g, region)
		checkError(t, e, api.OK, g)
		for _, side := range []int{1, m.from(2, 5), m.from(6, 256)} {
			tiles, e := frame.Tiles(region, side)
			checkError(t, e, api.OK, side)
			got, e := w.tiled(g, region, side, m.order(len(tiles)))
			checkFrame(t, got, e, region, want.V, g, region, side)
		}
	}
	// Tiles are those at multiples of the side, also below 0.
	w, g := m.world(), blurs()
	_, e := w.tiled(g, api.Region{X: -3, W: 6, H: 1}, 2, []int{2, 0, 1})
	checkError(t, e, api.ErrForm, "three tiles of four")
	_, e = w.tiled(g, api.Region{X: -3, W: 6, H: 1}, 2, []int{2, 0, 1, 3})
	checkError(t, e, api.OK, "four tiles")
}

// The region of Value's one place, and those of Eval, have the same values.
func TestP182EvalHasValues(t *testing.T) {
	c := goodCall()
	f, e := c.eval(c.graph, c.region)
	checkError(t, e, api.OK, "Eval")
	checkList(t, f.V, pixelsOf(c.region, func(x, y int) api.Pixel {
		p, e := node.Value(c.graph, c.library, c.sources, c.number, c.graph.Out, x, y)
		checkError(t, e, api.OK, x, y)
		return p
	}))
}
