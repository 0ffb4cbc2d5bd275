package node_test

import (
	"slices"
	"strings"
	"testing"

	"dyehouse/api"
	"dyehouse/node"
)

// These were reckoned by another program.
func TestP185Digests(t *testing.T) {
	for text, want := range map[string]string{
		"":                        "cdf635c6b1ba5f6b",
		"a":                       "fd9bd3305b545718",
		"b":                       "4d72577bc3bf9651",
		"ab":                      "8987f02ab73f8a52",
		"ba":                      "b5069c34dcf67104",
		"\x00":                    "e636fc441dc1b26c",
		"\x00\x00":                "88f48896586691ec",
		"\xff":                    "8bad10a200907c5a",
		"1753":                    "00e20de60195b61b",
		"source 0":                "976e3bc238a01983",
		"The quick brown fox\n":   "fef4ab4dd75af314",
		strings.Repeat("x", 1000): "724903a4b3d3af0c",
	} {
		if got := node.Digest(text); got != want {
			t.Errorf("Digest of %.40q is %s, want %s", text, got, want)
		}
	}
}

// keyed is a call whose keys were reckoned by another program.
func keyed() call {
	cube := api.Cube{Size: 2, Low: -0.5, High: 1, V: make([]float32, 24)}
	for i := range cube.V {
		cube.V[i] = float32(i) / 8
	}
	cube.V[3] = oddNaN()
	box := api.Window{Kind: api.WindowBox, X: 1, Y: 2, W: 3, H: 4, Soft: 0.5}
	other := box
	other.X, other.Soft = 5, minusZero()
	return call{
		graph: api.Graph{Out: 6, Nodes: []api.Node{
			{Op: "source", Ints: []int{0}},
			{Op: "fill", Reals: []float32{1, minusZero(), oddNaN(), 2}},
			{Op: "grade", In: []int{0}, Ints: []int{0}},
			{Op: "cube", In: []int{2}, Ints: []int{0, 2}},
			{Op: "window", Ints: []int{0}},
			{Op: "grain", In: []int{3}, Ints: []int{7, 2, 1}, Reals: []float32{0.5, 1}},
			{Op: "through", In: []int{1, 5, 4}},
			{Op: "mix", In: []int{0, 1}, Reals: []float32{0.5}},
			{Op: "alpha", In: []int{0}},
		}},
		world: world{
			library: api.Library{
				Grades:  [][]api.Grade{{{Kind: api.GradeContrast, Pivot: 0.5, Amount: 2}, {Kind: api.GradePrinter, Points: [3]int{25, 0, 50}}}},
				Cubes:   []api.Cube{cube},
				Windows: [][]api.KeyFrame{{{Frame: 3, Ease: api.EaseLinear, Window: box}, {Frame: 9, Ease: api.EaseHold, Window: other}}},
			},
			sources: []api.Frame{{Region: api.Region{X: -1, Y: 2, W: 2, H: 1}, V: []float32{0, 1, 0.5, 1, 2, oddNaN(), minusZero(), 0.25}}},
			number:  12,
		},
	}
}

func TestP186Keys(t *testing.T) {
	c := keyed()
	got, e := c.keys(c.graph)
	want := []string{
		"1144a26a282262ff", "949e42d0c4d7315e", "579940730d4c6eea", "ed025821fb53acb5", "1295d76fad887164",
		"331677b3917e0d6f", "53886c2a24021c11", "329b601d62cfb463", "abcc34a1437c368e",
	}
	if e != api.OK || !slices.Equal(got, want) {
		t.Error("Keys are", got, e, "want", want)
	}
	spoilers{}.scene().refuse(t, "Keys", func(c call, want api.Errno, what ...any) {
		keys, e := c.keys(c.graph)
		if want == api.OK {
			checkError(t, e, want, what...)
			return
		}
		refusedList(t, keys, e, want, what...)
	})
}

// Each change changes just the keys of the nodes that hang on it.
func TestP186ChangedKeys(t *testing.T) {
	frames := func(c *call) []api.KeyFrame { return c.library.Windows[0] }
	for what, change := range map[string]struct {
		change func(c *call)
		want   []int
	}{
		"nothing":             {func(c *call) {}, nil},
		"another NaN":         {func(c *call) { c.graph.Nodes[1].Reals[2] = nan() }, nil},
		"a NaN of the cube":   {func(c *call) { c.library.Cubes[0].V[3] = nan() }, nil},
		"a NaN of the source": {func(c *call) { c.sources[0].V[5] = nan() }, nil},
		"another result":      {func(c *call) { c.graph.Out = 0 }, nil},
		"more in the library": {func(c *call) { c.library.Cubes = append(c.library.Cubes, goodCube()) }, nil},
		"another source":      {func(c *call) { c.sources = append(c.sources, c.sources[0]) }, nil},
		"the number":          {func(c *call) { c.number++ }, []int{4, 5, 6}},
		"a value of a source": {func(c *call) { c.sources[0].V[7] = above(0.25) }, []int{0, 2, 3, 5, 6, 7, 8}},
		"a zero of a source":  {func(c *call) { c.sources[0].V[0] = minusZero() }, []int{0, 2, 3, 5, 6, 7, 8}},
		"a place of a source": {func(c *call) { c.sources[0].X = 0 }, []int{0, 2, 3, 5, 6, 7, 8}},
		"a side of a source":  {func(c *call) { c.sources[0].W, c.sources[0].H = 1, 2 }, []int{0, 2, 3, 5, 6, 7, 8}},
		"the source's number": {func(c *call) { c.sources = append(c.sources, c.sources[0]); c.graph.Nodes[0].Ints[0] = 1 }, []int{0, 2, 3, 5, 6, 7, 8}},
		"a zero of a fill":    {func(c *call) { c.graph.Nodes[1].Reals[1] = 0 }, []int{1, 6, 7}},
		"a grade":             {func(c *call) { c.library.Grades[0][0].Amount = above(2) }, []int{2, 3, 5, 6}},
		"a zero of a grade":   {func(c *call) { c.library.Grades[0][0].Pivot = 0 }, []int{2, 3, 5, 6}},
		"one grade less":      {func(c *call) { c.library.Grades[0] = c.library.Grades[0][:1] }, []int{2, 3, 5, 6}},
		"no grades":           {func(c *call) { c.library.Grades[0] = nil }, []int{2, 3, 5, 6}},
		"an entry":            {func(c *call) { c.library.Cubes[0].V[23] = below(23.0 / 8) }, []int{3, 5, 6}},
		"a zero entry":        {func(c *call) { c.library.Cubes[0].V[0] = minusZero() }, []int{3, 5, 6}},
		"the cube's Low":      {func(c *call) { c.library.Cubes[0].Low = 0 }, []int{3, 5, 6}},
		"the cube's High":     {func(c *call) { c.library.Cubes[0].High = 2 }, []int{3, 5, 6}},
		"the cube's Size":     {func(c *call) { c.library.Cubes[0] = api.Cube{Size: 3, Low: -0.5, High: 1, V: make([]float32, 81)} }, []int{3, 5, 6}},
		"how":                 {func(c *call) { c.graph.Nodes[3].Ints[1] = 1 }, []int{3, 5, 6}},
		"a key frame's Frame": {func(c *call) { frames(c)[1].Frame = 8 }, []int{4, 6}},
		"a key frame's Ease":  {func(c *call) { frames(c)[0].Ease = api.EaseSmooth }, []int{4, 6}},
		"a last Ease":         {func(c *call) { frames(c)[1].Ease = api.EaseSmooth }, []int{4, 6}},
		"a window":            {func(c *call) { frames(c)[0].Window.H = above(4) }, []int{4, 6}},
		"a zero of a window":  {func(c *call) { frames(c)[1].Window.Soft = 0 }, []int{4, 6}},
		"two windows":         {func(c *call) { frames(c)[0].Window.Out, frames(c)[1].Window.Out = true, true }, []int{4, 6}},
		"one window less":     {func(c *call) { c.library.Windows[0] = frames(c)[:1] }, []int{4, 6}},
		"the seed":            {func(c *call) { c.graph.Nodes[5].Ints[0] = 8 }, []int{5, 6}},
		"the strength":        {func(c *call) { c.graph.Nodes[5].Reals[0] = below(0.5) }, []int{5, 6}},
		"what goes in":        {func(c *call) { c.graph.Nodes[6].In[0] = 0 }, []int{6}},
		"the order in a mix":  {func(c *call) { c.graph.Nodes[7].In = []int{1, 0} }, []int{7}},
		"an operation":        {func(c *call) { c.graph.Nodes[3] = api.Node{Op: "convert", In: []int{2}, Ints: []int{0, 2}} }, []int{3, 5, 6}},
	} {
		before, after := keyed(), keyed()
		change.change(&after)
		a, e := before.keys(before.graph)
		checkError(t, e, api.OK, what)
		b, e := after.keys(after.graph)
		checkError(t, e, api.OK, what)
		changed, e := node.Changed(a, b)
		checkInts(t, changed, e, change.want, what)
	}
}

// Things are told by what they are, not by where they stand.
func TestP186KeysOfEqualThings(t *testing.T) {
	c := keyed()
	c.library.Windows = append(c.library.Windows, nil)
	c.library.Windows[1] = slices.Clone(c.library.Windows[0])
	c.sources = append(c.sources, c.sources[0])
	g := linked(t, "a source 0\nb source 0\nc source 1\nm window 0\nn window 0\no window 1\nd cover a m\ne cover b n\nf cover a o\ng cover c m\nout d\n")
	l, e := c.keys(g)
	checkError(t, e, api.OK, "Keys")
	for _, same := range [][]int{{0, 1}, {3, 4}, {6, 7}} {
		if l[same[0]] != l[same[1]] {
			t.Error("keys differ:", same)
		}
	}
	slices.Sort(l)
	if n := len(slices.Compact(l)); n != 7 {
		t.Error("there are", n, "keys")
	}
}

func TestP186Changed(t *testing.T) {
	for _, c := range []struct {
		a, b []string
		want []int
	}{
		{nil, nil, nil}, {nil, []string{}, nil}, {[]string{"a"}, []string{"a"}, nil}, {[]string{"a"}, []string{"A"}, []int{0}},
		{[]string{"a", "b", "c", ""}, []string{"b", "b", "a", " "}, []int{0, 2, 3}},
	} {
		got, e := node.Changed(c.a, c.b)
		checkInts(t, got, e, c.want, c)
	}
	for _, n := range []int{0, 1, 3} {
		got, e := node.Changed(make([]string, 2), make([]string, n))
		refusedList(t, got, e, api.ErrForm, n)
		got, e = node.Changed(make([]string, n), []string{"a", "b"})
		refusedList(t, got, e, api.ErrForm, n)
	}
}
