package node_test

import (
	"slices"
	"strings"
	"testing"

	"dyehouse/api"
	"dyehouse/node"
)

// sameStep says whether two steps are the same, with the bits of their reals.
func sameStep(a, b api.Step) bool {
	return a.Name == b.Name && a.Op == b.Op && slices.Equal(a.In, b.In) && slices.Equal(a.Ints, b.Ints) && slices.EqualFunc(a.Reals, b.Reals, sameSingle)
}

func TestP178PlainText(t *testing.T) {
	p := api.Program{Out: "e_1", Steps: []api.Step{
		{Name: "a", Op: "source", Ints: []int{7}},
		{Name: "b", Op: "fill", Reals: []float32{minusZero(), oddNaN(), -infinity(), 1e-7}},
		{Name: "c", Op: "grain", In: []string{"a"}, Ints: []int{4294967295, 16, 1}, Reals: []float32{0.1, 4}},
		{Name: "m", Op: "window", Ints: []int{15}},
		{Name: "d", Op: "through", In: []string{"c", "b", "m"}},
		{Name: "e_1", Op: "cube", In: []string{"d"}, Ints: []int{0, 2}},
		{Name: "f", Op: "invert", In: []string{"m"}},
	}}
	want := "a source 7\nb fill -0 nan -inf 1e-07\nc grain a 4294967295 16 1 0.1 4\nm window 15\nd through c b m\ne_1 cube d 0 2\nf invert m\nout e_1\n"
	text, e := node.Print(p)
	if text != want || e != api.OK {
		t.Errorf("Print %q, error %d", text, e)
	}
	p.Steps[1].Reals[1] = nan() // G7
	got, line, e := node.Parse(text)
	if e != api.OK || line != 0 || got.Out != p.Out || !slices.EqualFunc(got.Steps, p.Steps, sameStep) {
		t.Error("Parse", got, line, e)
	}
	// Numbers may be written in other ways.
	got, line, e = node.Parse("b fill 00.50 1e+2 2e-01 -3.0\nout b\n")
	if e != api.OK || line != 0 || len(got.Steps) != 1 || !slices.EqualFunc(got.Steps[0].Reals, []float32{0.5, 100, 0.2, -3}, sameSingle) {
		t.Error("Parse", got, line, e)
	}
}

// checkText tells of a text that is not refused with this error and line.
func checkText(t *testing.T, text string, want api.Errno, line int) {
	t.Helper()
	p, at, e := node.Parse(text)
	if e != want || at != line || want != api.OK && (p.Out != "" || len(p.Steps) != 0) {
		t.Errorf("Parse %.200q: got %.200v, error %d in line %d, want %d in %d", text, p, e, at, want, line)
	}
}

func TestP178SyntaxOfTexts(t *testing.T) {
	for text, line := range map[string]int{
		"": 0, "\n": 0, " \n": 0, "a": 0, "a\n": 0, "a ": 0, "a \n": 0, " a\n": 0, "a source 0": 0,
		"a source 0\n": 1, "a source 0\nb source 1\n": 2, "a source 0\n\n": 1, "a source 0\n\nout a\n": 1,
		"a source 0\nout a": 1, "a source 0\nout": 1, "a source 0\nout\n": 1, "a source 0\nout \n": 1, "a source 0\nout  a\n": 1,
		"a source 0\nout a a\n": 1, "a source 0\nout a \n": 1, "a source 0\n out a\n": 1, "a source 0\nout source 0\n": 1,
		"a source 0\nout a\n\n": 2, "a source 0\nout a\nb source 0\n": 2, "a source 0\nout a\nout a\n": 2, "a source 0\nout a\nx": 2, "a source 0\nout a\n ": 2,
		"out a\na source 0\nout a\n": 1, "out a\n\n\n": 1,
		"a  source 0\nout a\n": 0, "a source  0\nout a\n": 0, " a source 0\nout a\n": 0, "a source 0 \nout a\n": 0,
		"a source\nout a\n": 0, "a source 0 0\nout a\n": 0, "a source x\nout a\n": 0, "a source 00\nout a\n": 0, "a source -0\nout a\n": 0,
		"a source +0\nout a\n": 0, "a source 0.0\nout a\n": 0, "a source 01\nout a\n": 0, "a source 12345678901\nout a\n": 0, "a source -12345678901\nout a\n": 0,
		"a source 99999999999999999999\nout a\n": 0, "a source 0x1\nout a\n": 0, "a source 1_0\nout a\n": 0, "a source -\nout a\n": 0,
		"a source 0\r\nout a\n": 0,
		"a fill 1 2 3\nout a\n": 0, "a fill 1 2 3 4 5\nout a\n": 0, "a fill 1 2 3 x\nout a\n": 0, "a fill 1 2 3 +4\nout a\n": 0, "a fill 1 2 3 NaN\nout a\n": 0,
		"a fill 1 2 3 .5\nout a\n": 0, "a fill 1 2 3 " + strings.Repeat("0", 101) + "\nout a\n": 0,
		"a source 0\nb expose a\nout b\n": 1, "a source 0\nb expose 1\nout b\n": 1, "a source 0\nb expose a a 1\nout b\n": 1, "a source 0\nb expose 1 a\nout b\n": 1,
		"a source 0\nb tone a 1.5 1 0\nout b\n": 1, "a source 0\nb blur a 1.0\nout b\n": 1, "a source 0\nb alpha a 0\nout a\n": 1,
		// The first line that is wrong decides, whatever other errors there are.
		"a nosuch\na nosuch\nb source x\nout a a\n": 2, "A source 99\nb source x\nc\n": 1, "a nosuch  x\nout a\n": 0, "a nosuch \nout a\n": 0, "a nosuch x \nout a\n": 0,
		"a nosuch": 0, "a source 0\na source 0": 1,
	} {
		checkText(t, text, api.ErrSyntax, line)
	}
}

func TestP178ErrorsOfTexts(t *testing.T) {
	long := strings.Repeat("a nosuch x\n", 1<<20/11+1)
	for text, want := range map[string]api.Errno{
		long: api.ErrLarge, strings.Repeat("a", 1<<20+1): api.ErrLarge, long[:1<<20-8] + "\nout a\n": api.ErrLarge,
		"out a\n": api.ErrEmpty, "out out\n": api.ErrEmpty,
		"a nosuch\nout a\n": api.ErrKind, "a nosuch x y 1 \t \xff\nout a\n": api.ErrKind, "a nosuch out\nout b\n": api.ErrKind, "A nosuch\nout a\n": api.ErrName,
		"out_ source 0\nout a\n": api.ErrNone, "a out\nout a\n": api.ErrKind, "a source 0\na nosuch\nout a\n": api.ErrTwice,
		"a source 8\nout a\n": api.ErrRange, "a source -1\nout a\n": api.ErrRange, "a source 1234567890\nout a\n": api.ErrRange, "a source -1234567890\nout a\n": api.ErrRange,
		"a source 0\nb grain a 4294967296 1 0 0 0\nout a\n": api.ErrRange, "a source 0\nb grain a 4294967295 1 0 0 0\nout a\n": api.OK,
		"a source 0\nb expose a inf\nout b\n": api.ErrForm, "a source 0\nb expose a 1e999\nout b\n": api.ErrForm, "a source 0\nb expose x 1\nout b\n": api.ErrNone,
		"a source 0\nb spread a 1\nout a\n": api.ErrConflict, "a source 0\nb alpha a\nout b\n": api.ErrConflict, "a source 0\nout x\n": api.ErrNone,
		"a source 0\nb expose out 1\nout b\n": api.ErrNone, "a source 0\nb luma a 1 0 0\nout a\n": api.ErrOrder,
		// Only spaces stand between words.
		"a\tsource 0\nout a\n": api.ErrName, "a source\t0\nout a\n": api.ErrKind,
		strings.Repeat("z", 41) + " source 0\nout a\n": api.ErrName, "\x00 source 0\nout a\n": api.ErrName,
	} {
		checkText(t, text, want, 0)
	}
	// Just as many bytes as there may be.
	checkText(t, "a nosuch "+strings.Repeat("x", 1<<20-16)+"\nout a\n", api.ErrKind, 0)
	checkText(t, "a nosuch "+strings.Repeat("x", 1<<20-15)+"\nout a\n", api.ErrLarge, 0)
}

func TestP178ReadsWhatIsPrinted(t *testing.T) {
	m := mixer{}
	for range 600 {
		p := programOf(m.graph(m.from(1, 30), 16))
		text, e := node.Print(p)
		checkError(t, e, api.OK, p)
		got, line, e := node.Parse(text)
		if e != api.OK || line != 0 || got.Out != p.Out || len(got.Steps) != len(p.Steps) {
			t.Fatal("Parse", text, got, line, e)
		}
		for i, s := range p.Steps {
			for j, v := range s.Reals {
				s.Reals[j] = single(clean(v))
			}
			if !sameStep(got.Steps[i], s) {
				t.Error("Parse", text, got.Steps[i], "want", s)
			}
		}
		again, e := node.Print(got)
		if e != api.OK || again != text {
			t.Errorf("Print %q, want %q", again, text)
		}
	}
}

// A text with a byte changed is refused, or is a program that prints itself.
func TestP178SpoiledTexts(t *testing.T) {
	m := mixer{}
	for range 3000 {
		text, _ := node.Print(programOf(m.graph(m.from(1, 6), 16)))
		bytes := []byte(text)
		at := m.below(len(bytes))
		switch m.below(3) {
		case 0:
			bytes[at] = one(&m, []byte("\n 0a9_-.x\x00")...)
		case 1:
			bytes = slices.Delete(bytes, at, at+1)
		default:
			bytes = slices.Insert(bytes, at, one(&m, []byte("\n 0a9_-.x")...))
		}
		p, line, e := node.Parse(string(bytes))
		lines := strings.Count(string(bytes), "\n")
		switch {
		case e == api.OK:
			again, e := node.Print(p)
			if e != api.OK || line != 0 {
				t.Errorf("Parse takes %q as %q, line %d, error %d", bytes, again, line, e)
			}
		case p.Out != "" || len(p.Steps) != 0 || line < 0 || line > lines || e != api.ErrSyntax && line != 0:
			t.Errorf("Parse %q has %v, line %d, error %d", bytes, p, line, e)
		}
	}
}
