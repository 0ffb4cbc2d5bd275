package node_test

import (
	"math"
	"slices"
	"strings"
	"testing"

	"dyehouse/api"
	"dyehouse/node"
)

// step returns one with parameters that have no error, behind those of base.
func step(op string) api.Step {
	s := api.Step{Name: "x", Op: op}
	f := formOf(op)
	for i, kind := range f.In {
		s.In = append(s.In, []string{"", "pq", "mn"}[kind][i%2:i%2+1])
	}
	m := mixer{}
	s.Ints, s.Reals = m.parameters(op, 4)
	return s
}

// base are two pictures and two mattes.
func base() []api.Step {
	return []api.Step{
		{Name: "p", Op: "fill", Reals: []float32{1, 2, 3, 4}}, {Name: "q", Op: "source", Ints: []int{7}},
		{Name: "m", Op: "alpha", In: []string{"p"}}, {Name: "n", Op: "window", Ints: []int{15}},
	}
}

// behind is a program with steps behind those of base.
func behind(steps ...api.Step) api.Program {
	return api.Program{Steps: append(base(), steps...), Out: "p"}
}

// graphOf has a node for each step; what is not there becomes -1.
func graphOf(p api.Program) api.Graph {
	var g api.Graph
	number := func(name string, l []api.Step) int {
		return slices.IndexFunc(l, func(s api.Step) bool { return s.Name == name })
	}
	for i, s := range p.Steps {
		n := api.Node{Op: s.Op, Ints: s.Ints, Reals: s.Reals}
		for _, name := range s.In {
			n.In = append(n.In, number(name, p.Steps[:i]))
		}
		g.Nodes = append(g.Nodes, n)
	}
	g.Out = number(p.Out, p.Steps)
	return g
}

// checkBoth tells of errors of a program that are not want, and of those of its
// graph, where no names are.
func checkBoth(t *testing.T, p api.Program, want api.Errno, what ...any) {
	t.Helper()
	checkError(t, node.CheckProgram(p), want, what...)
	if want != api.ErrName && want != api.ErrTwice {
		checkError(t, node.CheckGraph(graphOf(p)), want, what...)
	}
	text, e := node.Print(p)
	g, d := node.Compile(p)
	if e != want || d != want || want != api.OK && (text != "" || len(g.Nodes) != 0 || g.Out != 0) {
		t.Errorf("%v: Print %q %d, Compile %v %d, want %d", what, text, e, g, d, want)
	}
}

// parameterCase is of an operation with an integer or a real changed.
type parameterCase struct {
	op    string
	ints  []int
	reals []float32
	error api.Errno
}

// boundCases are of integers at their bounds, and beyond.
func boundCases() []parameterCase {
	var l []parameterCase
	add := func(op string, at, low, high int, ints []int, reals ...float32) {
		with := func(n int, e api.Errno) {
			changed := slices.Clone(ints)
			changed[at] = n
			l = append(l, parameterCase{op, changed, reals, e})
		}
		with(low, api.OK)
		with(high, api.OK)
		for _, n := range append(badInts(), low-1, high+1) {
			if n < low || n > high {
				with(n, api.ErrRange)
			}
		}
	}
	add("source", 0, 0, 7, []int{0})
	add("grade", 0, 0, 15, []int{0})
	add("window", 0, 0, 15, []int{0})
	add("cube", 0, 0, 15, []int{0, 1})
	add("cube", 1, 1, 2, []int{0, 1})
	add("convert", 0, 0, 5, []int{0, 0})
	add("convert", 1, 0, 5, []int{0, 0})
	add("grain", 0, 0, math.MaxUint32, []int{0, 1, 0}, 1, 1)
	add("grain", 1, 1, 16, []int{0, 1, 0}, 1, 1)
	add("grain", 2, 0, 1, []int{0, 1, 0}, 1, 1)
	for _, op := range []string{"blur", "spread", "shrink", "feather"} {
		add(op, 0, 0, 16, []int{0})
	}
	add("combine", 0, 1, 8, []int{1})
	add("meet", 0, 1, 4, []int{1})
	// The first and the last kind of tones have no error with these.
	add("tone", 0, 1, 3, []int{1}, 0.5, 0)
	return l
}

// realCases are of reals at their bounds, and beyond.
func realCases() []parameterCase {
	ok, form, order := api.OK, api.ErrForm, api.ErrOrder
	bad := api.ErrRange
	l := []parameterCase{
		{"fill", nil, []float32{nan(), infinity(), -infinity(), oddNaN()}, ok},
		{"saturate", nil, []float32{-greatest}, ok},
		{"turn", nil, []float32{greatest}, ok},
		{"expose", nil, []float32{greatest}, ok},
		{"mix", nil, []float32{-greatest}, ok},
		{"compress", nil, []float32{minusZero()}, ok},
		{"compress", nil, []float32{below(1)}, ok},
		{"compress", nil, []float32{1}, bad},
		{"compress", nil, []float32{-least}, bad},
		{"tone", []int{1}, []float32{0.5, minusZero()}, ok},
		{"tone", []int{1}, []float32{below(0.5), 0}, bad},
		{"tone", []int{1}, []float32{1, least}, bad},
		{"tone", []int{2}, []float32{0, 1000}, ok},
		{"tone", []int{2}, []float32{1, 1}, bad},
		{"tone", []int{3}, []float32{16, 1}, ok},
		{"tone", []int{3}, []float32{16, above(1)}, bad},
		{"tone", []int{4}, []float32{nan(), 1}, form},
		{"grain", []int{0, 1, 0}, []float32{4, 4}, ok},
		{"grain", []int{0, 1, 0}, []float32{above(4), 4}, bad},
		{"grain", []int{0, 1, 0}, []float32{4, -least}, bad},
		{"grain", []int{-1, 0, 2}, []float32{4, infinity()}, form},
		{"vignette", nil, []float32{greatest, -greatest, 0, least, 1}, ok},
		{"vignette", nil, []float32{0, 0, 1, 1, 2}, order},
		{"vignette", nil, []float32{0, 0, 1, 2, above(1)}, bad},
		{"sharpen", nil, []float32{16, greatest}, ok},
		{"sharpen", nil, []float32{above(16), 0}, bad},
		{"sharpen", nil, []float32{0, -least}, bad},
		{"luma", nil, []float32{1, 1, 0}, ok},
		{"luma", nil, []float32{1, below(1), -1}, order},
		{"luma", nil, []float32{0, 1, -least}, bad},
	}
	hue := func(at int, v float32, e api.Errno) {
		reals := []float32{0, 0.5, 0.5, 0, 1, 0, 0, 1, 0}
		reals[at] = v
		l = append(l, parameterCase{"hue", nil, reals, e})
	}
	hue(0, below(1), ok)
	hue(0, 1, bad)
	hue(1, above(0.5), bad)
	hue(2, -least, bad)
	hue(3, above(1), order)
	hue(4, -1, order)
	hue(5, -1, bad)
	hue(6, above(1), order)
	hue(7, -1, order)
	hue(8, -least, bad)
	return l
}

func TestP177Parameters(t *testing.T) {
	for _, c := range append(boundCases(), realCases()...) {
		s := step(c.op)
		s.Ints, s.Reals = c.ints, c.reals
		checkBoth(t, behind(s), c.error, c)
	}
	// No real is anything else than a number, but of fill; integers come behind.
	for _, f := range forms() {
		for i := range f.Reals {
			for _, v := range noNumbers() {
				s := step(f.Name)
				s.Reals[i] = v
				want := api.ErrForm
				if f.Name == "fill" {
					want = api.OK
				}
				checkBoth(t, behind(s), want, s)
				for j := range s.Ints {
					s.Ints[j] = -1
				}
				checkBoth(t, behind(s), want, s)
			}
		}
	}
}

func TestP177NamesOfSteps(t *testing.T) {
	for name, want := range map[string]api.Errno{
		"a": api.OK, "z9_": api.OK, "ou": api.OK, "outs": api.OK, "out_": api.OK, "source": api.OK,
		"a" + strings.Repeat("_", 39): api.OK, strings.Repeat("z", 40): api.OK,
		strings.Repeat("z", 41): api.ErrName, "": api.ErrName, "out": api.ErrName, "_a": api.ErrName, "0a": api.ErrName,
		"A": api.ErrName, "aA": api.ErrName, "a b": api.ErrName, "a-": api.ErrName, "a\n": api.ErrName, " ": api.ErrName,
		"`": api.ErrName, "{": api.ErrName, "a`": api.ErrName, "a{": api.ErrName, "a/": api.ErrName, "a:": api.ErrName, "a\x00": api.ErrName, "aé": api.ErrName,
		"p": api.ErrTwice, "n": api.ErrTwice,
	} {
		s := step("expose")
		s.Name = name
		checkBoth(t, behind(s), want, name)
		// The name comes ahead of all else.
		s.Op, s.In = "nosuch", nil
		if want == api.OK {
			want = api.ErrKind
		}
		checkBoth(t, behind(s), want, name)
	}
}

func TestP177FormsOfSteps(t *testing.T) {
	for _, f := range forms() {
		checkBoth(t, behind(step(f.Name)), api.OK, f)
		for _, change := range []func(s *api.Step){
			func(s *api.Step) { s.In = append(s.In, "p") },
			func(s *api.Step) { s.Ints = append(s.Ints, 0) },
			func(s *api.Step) { s.Reals = append(s.Reals, 0) },
			func(s *api.Step) { s.In = append(s.In, "nosuch") },
			func(s *api.Step) { s.In = s.In[:max(len(s.In)-1, 0)] },
			func(s *api.Step) { s.Ints = s.Ints[:max(len(s.Ints)-1, 0)] },
			func(s *api.Step) { s.Reals = s.Reals[:max(len(s.Reals)-1, 0)] },
			func(s *api.Step) { s.In, s.Ints, s.Reals = nil, nil, nil },
		} {
			s := step(f.Name)
			change(&s)
			if len(s.In) != len(f.In) || len(s.Ints) != f.Ints || len(s.Reals) != f.Reals {
				checkBoth(t, behind(s), api.ErrForm, s)
				for i := range s.In {
					s.In[i] = "nosuch"
				}
				checkBoth(t, behind(s), api.ErrForm, s)
			}
			s.Op = "nosuch"
			checkBoth(t, behind(s), api.ErrKind, s)
		}
		// What goes in is there before, and has the kind that is needed.
		for i, kind := range f.In {
			for _, c := range []struct {
				name  string
				error api.Errno
			}{{"nosuch", api.ErrNone}, {"x", api.ErrNone}, {"later", api.ErrNone}, {"", api.ErrNone}, {"out", api.ErrNone}, {"mp"[kind-1 : kind], api.ErrConflict}} {
				s := step(f.Name)
				s.In[i] = c.name
				for j := range s.Reals {
					s.Reals[j] = nan()
				}
				later := api.Step{Name: "later", Op: f.Name}
				checkBoth(t, behind(s, later), c.error, s)
				// The first one decides.
				for j := i + 1; j < len(s.In); j++ {
					s.In[j] = "nosuch"
				}
				checkBoth(t, behind(s), c.error, s)
			}
		}
	}
}

func TestP177ErrorsOfPrograms(t *testing.T) {
	fill := base()[0]
	long := func(n int) []api.Step {
		var l []api.Step
		for i := range n {
			s := fill
			s.Name = nameOf(i)
			l = append(l, s)
		}
		return l
	}
	bad := append(long(100), api.Step{})
	bad[0].Op = "nosuch"
	for _, c := range []struct {
		what  string
		p     api.Program
		error api.Errno
	}{
		{"nothing", api.Program{}, api.ErrEmpty},
		{"no steps", api.Program{Out: "p"}, api.ErrEmpty},
		{"one step", api.Program{Steps: long(1), Out: "s0"}, api.OK},
		{"100 steps", api.Program{Steps: long(100), Out: "s99"}, api.OK},
		{"101 steps", api.Program{Steps: long(101), Out: "s0"}, api.ErrLarge},
		{"101 bad steps", api.Program{Steps: bad, Out: "s0"}, api.ErrLarge},
		{"no such result", api.Program{Steps: base(), Out: "x"}, api.ErrNone},
		{"a result without a name", api.Program{Steps: base()}, api.ErrNone},
		{"out", api.Program{Steps: base(), Out: "out"}, api.ErrNone},
		{"a matte", api.Program{Steps: base(), Out: "m"}, api.ErrConflict},
		{"a source", api.Program{Steps: base(), Out: "q"}, api.OK},
	} {
		checkBoth(t, c.p, c.error, c.what)
	}
	// The first bad step decides, and the result comes last.
	kind, form := api.Step{Name: "x", Op: "nosuch"}, step("blur")
	form.Name, form.Ints = "y", nil
	for _, out := range []string{"p", "m", "nosuch"} {
		p := behind(kind, form)
		p.Out = out
		checkBoth(t, p, api.ErrKind, out)
		p = behind(form, kind)
		p.Out = out
		checkBoth(t, p, api.ErrForm, out)
	}
}
