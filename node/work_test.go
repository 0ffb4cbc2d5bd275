package node_test

import (
	"testing"

	"dyehouse/api"
	"dyehouse/node"
)

func TestP175TableOfOperations(t *testing.T) {
	names := node.Ops()
	l := forms()
	if len(names) != len(l) {
		t.Fatal("Ops has", names)
	}
	for i, want := range l {
		if names[i] != want.Name {
			t.Error("Ops has", names[i], "at", i)
		}
		got, e := node.Op(want.Name)
		checkError(t, e, api.OK, want.Name)
		checkInts(t, got.In, e, want.In, want.Name)
		got.In, want.In = nil, nil
		if got.Name != want.Name || got.Out != want.Out || got.Ints != want.Ints || got.Reals != want.Reals || got.Area != want.Area {
			t.Error("Op has", got, "for", want)
		}
	}
	for _, name := range []string{"", "Source", "source ", " source", "sources", "sourc", "out", "blur\n", "nosuch"} {
		got, e := node.Op(name)
		if e != api.ErrName || got.Name != "" || len(got.In) != 0 || got.Out != 0 || got.Ints != 0 || got.Reals != 0 || got.Area {
			t.Error("Op", name, got, e)
		}
	}
}

// alone returns a graph with one node of an operation, behind those that it needs,
// which have colours and mattes of all kinds.
func (m *mixer) alone(op string) api.Graph {
	g := api.Graph{Nodes: []api.Node{
		{Op: "source", Ints: []int{0}}, {Op: "source", Ints: []int{1}},
		{Op: "alpha", In: []int{0}}, {Op: "alpha", In: []int{1}},
	}}
	n, _ := m.node(op, []int{1, 1, 2, 2}, 4)
	g.Nodes = append(g.Nodes, n)
	return g
}

func TestP175EachOperation(t *testing.T) {
	m := mixer{}
	for _, f := range forms() {
		for range 40 {
			w, g := m.world(), m.alone(f.Name)
			last := len(g.Nodes) - 1
			r := referenceOf(g, w)
			for range 12 {
				x, y := m.from(-25, 25), m.from(-25, 25)
				got, e := w.value(g, last, x, y)
				checkError(t, e, api.OK, f.Name)
				checkPixel(t, got, r.at(last, x, y), f.Name, g.Nodes[last], x, y)
			}
			if f.Out == api.OutPicture {
				g.Out = last
				region := m.regionWithin(wantMargin(g, last))
				got, e := w.eval(g, region)
				checkFrame(t, got, e, region, r.over(last, region), f.Name, g.Nodes[last])
			}
		}
	}
}

// one returns a world with one source of one pixel at (0, 0).
func onePixelWorld(p api.Pixel) world {
	return world{sources: []api.Frame{{Region: api.Region{W: 1, H: 1}, V: p[:]}}}
}

// Values that are plain enough to be told here, each of one pixel.
func TestP175PlainValues(t *testing.T) {
	p := api.Pixel{0.25, 0.5, 1, 0.75}
	for _, c := range []struct {
		text string
		want api.Pixel
	}{
		{"x fill 1 -0 nan inf", api.Pixel{1, minusZero(), nan(), infinity()}},
		{"x saturate a 1", p},
		{"b fill 1 0 0 0.5\nx turn b 0.5", api.Pixel{0, 1, 1, 0.5}},
		{"x convert a 3 3", p},
		{"x tone a 1 1 0", api.Pixel{0.25, 0.5, 1, 0.75}},
		{"x tone a 2 1 2", p},
		{"x expose a -2", api.Pixel{0.0625, 0.125, 0.25, 0.75}},
		{"x compress a 0.875", p},
		{"x grain a 7 1 0 0 0", p},
		{"x vignette a 0 0 1 2 0", p},
		{"x vignette a 9 0 1 2 0", api.Pixel{0, 0, 0, 0.75}},
		{"x vignette a 3 0 2 4 0.5", api.Pixel{0.1875, 0.375, 0.75, 0.75}},
		{"x vignette a 0 -3 2 4 0.5", api.Pixel{0.1875, 0.375, 0.75, 0.75}},
		{"x sharpen a 16 0", p},
		{"x blur a 2", p},
		{"b fill 1 2 3 4\nx mix a b 0.5", api.Pixel{0.625, 1.25, 2, 2.375}},
		{"b fill 1 2 3 4\nx mix a b 0.25", api.Pixel{0.4375, 0.875, 1.5, 1.5625}},
		{"b fill 1 2 3 4\nx combine a b 1", api.Pixel{1.25, 2.5, 4, 4.75}},
		{"b fill 1 2 3 4\nx combine b a 2", api.Pixel{0.75, 1.5, 2, 3.25}},
		{"b fill 1 2 3 4\nx combine a b 4", api.Pixel{0.25, 0.25, 1.0 / 3, 0.1875}},
		{"b fill 1 2 3 4\nx combine a b 8", api.Pixel{0.5, 1, 1.75, 1.75}},
		{"b fill 1 2 3 4\nm alpha a\nx through b a m", api.Pixel{0.4375, 0.875, 1.5, 1.5625}},
		{"b fill 1 2 3 4\nm alpha b\nx cover a m", api.Pixel{0.25, 0.5, 1, 4}},
		{"m luma a 0 0.25 0\nx cover a m", api.Pixel{0.25, 0.5, 1, 0}},
		{"m luma a 0.25 1 0\nx cover a m", api.Pixel{0.25, 0.5, 1, 1}},
		{"m hue a 0 0.25 0 0 1 0 0 1 0\nx cover a m", api.Pixel{0.25, 0.5, 1, 0}},
		{"m hue a 0.5 0.25 0 0 1 0 0 1 0\nx cover a m", api.Pixel{0.25, 0.5, 1, 1}},
		{"m hue a 0.5 0.25 0 0 0.5 0 0 1 0\nx cover a m", api.Pixel{0.25, 0.5, 1, 0}},
		{"m hue a 0.5 0.25 0 0 1 0 0 0.5 0\nx cover a m", api.Pixel{0.25, 0.5, 1, 0}},
		{"m alpha a\nn invert m\nx cover a n", api.Pixel{0.25, 0.5, 1, 0.25}},
		{"m alpha a\nn invert m\no meet m n 1\nx cover a o", api.Pixel{0.25, 0.5, 1, 0.25}},
		{"m alpha a\nn invert m\no meet m n 2\nx cover a o", p},
		{"m alpha a\nn invert m\no meet m n 3\nx cover a o", api.Pixel{0.25, 0.5, 1, 0.1875}},
		{"m alpha a\nn invert m\no meet m n 4\nx cover a o", api.Pixel{0.25, 0.5, 1, 0.8125}},
		{"m alpha a\nn spread m 3\nx cover a n", p},
		{"m alpha a\nn shrink m 3\nx cover a n", p},
		{"m alpha a\nn feather m 3\nx cover a n", p},
	} {
		g := linked(t, "a source 0\n"+c.text+"\nout x\n")
		got, e := onePixelWorld(p).value(g, g.Out, 0, 0)
		checkError(t, e, api.OK, c.text)
		checkPixel(t, got, c.want, c.text)
	}
}

// What looks around goes beyond the edges of a source, whose pixels go on.
func TestP175LookingAround(t *testing.T) {
	w := world{sources: []api.Frame{{Region: api.Region{X: 10, Y: 20, W: 3, H: 1}, V: []float32{0, 0, 0, 0, 9, 18, 27, 0.9, 36, 0, 9, 1}}}}
	for _, c := range []struct {
		text string
		x, y int
		want api.Pixel
	}{
		{"x blur a 1", 11, 20, api.Pixel{15, 6, 12, div(wantTotal(0, 0.9, 1, 0, 0.9, 1, 0, 0.9, 1), 9)}},
		{"x blur a 1", 10, -99, api.Pixel{3, 6, 9, div(wantTotal(0, 0, 0.9, 0, 0, 0.9, 0, 0, 0.9), 9)}},
		{"x blur a 2", 10, 20, api.Pixel{9, 3.6, 7.2, div(wantTotal(0, 0, 0, 0.9, 1, 0, 0, 0, 0.9, 1, 0, 0, 0, 0.9, 1, 0, 0, 0, 0.9, 1, 0, 0, 0, 0.9, 1), 25)}},
		{"x sharpen a 2 0", 11, 20, api.Pixel{-3, 42, 57, 0.9}},
		{"x sharpen a 2 6", 11, 20, api.Pixel{-3, 42, 57, 0.9}},
		{"x sharpen a 2 7", 11, 20, api.Pixel{9, 42, 57, 0.9}},
		{"m alpha a\nn spread m 1\nx cover a n", 10, 20, api.Pixel{0, 0, 0, 0.9}},
		{"m alpha a\nn spread m 2\nx cover a n", 10, 20, api.Pixel{0, 0, 0, 1}},
		{"m alpha a\nn shrink m 1\nx cover a n", 12, 20, api.Pixel{36, 0, 9, 0.9}},
		{"m alpha a\nn shrink m 1\nx cover a n", 13, 21, api.Pixel{36, 0, 9, 1}},
		{"m alpha a\nn feather m 1\nx cover a n", 14, 20, api.Pixel{36, 0, 9, 1}},
		{"m alpha a\nn feather m 1\nx cover a n", 9, 20, api.Pixel{0, 0, 0, 0}},
		{"m luma a 1 99 0\nn feather m 1\nx cover a n", 10, 20, api.Pixel{0, 0, 0, 1.0 / 3}},
	} {
		g := linked(t, "a source 0\n"+c.text+"\nout x\n")
		got, e := w.value(g, g.Out, c.x, c.y)
		checkError(t, e, api.OK, c.text)
		checkPixel(t, got, c.want, c.text, c.x, c.y)
	}
}

// wantTotal is the sum of l, in order.
func wantTotal(l ...float32) float32 {
	sum := l[0]
	for _, v := range l[1:] {
		sum = add(sum, v)
	}
	return sum
}

// Grain and windows hang on the number of the frame; what a key frame has comes in
// between.
func TestP175NumberOfFrame(t *testing.T) {
	w := onePixelWorld(api.Pixel{0.5, 0.5, 0.5, 1})
	w.library.Windows = [][]api.KeyFrame{{
		{Frame: 2, Ease: api.EaseLinear, Window: api.Window{Kind: api.WindowBox, W: 1, H: 1}},
		{Frame: 4, Ease: api.EaseHold, Window: api.Window{Kind: api.WindowBox, X: 8, W: 1, H: 1}},
	}}
	moving := linked(t, "a source 0\nm window 0\nx cover a m\nout x\n")
	for number, middle := range []int{0, 0, 0, 4, 8, 8} {
		w.number = number
		for x := -3; x < 12; x++ {
			want := api.Pixel{0.5, 0.5, 0.5, 0}
			if x >= middle-1 && x <= middle+1 {
				want[3] = 1
			}
			got, e := w.value(moving, moving.Out, x, 1)
			checkError(t, e, api.OK, number, x)
			checkPixel(t, got, want, number, x)
		}
	}
	grain := linked(t, "a source 0\nx grain a 4294967295 1 0 1 0\nout x\n")
	had := map[api.Pixel]bool{}
	for number := range 9 {
		w.number = number
		got, e := w.value(grain, grain.Out, 3, -4)
		checkError(t, e, api.OK, number)
		had[got] = true
	}
	if len(had) != 9 {
		t.Error("grain has", len(had), "values")
	}
}
