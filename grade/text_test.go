package grade_test

import (
	"math"
	"strconv"
	"strings"
	"testing"

	"dyehouse/api"
	"dyehouse/grade"
)

// written is a list of grades and its text.
func written() ([]api.Grade, string) {
	l := []api.Grade{
		{Kind: api.GradeWheels, Wheels: api.Wheels{Lift: [3]float32{0, minusZero(), -1}, Gamma: [3]float32{1, 0.0625, 16}, Gain: [3]float32{0.1, greatest, single(1)}}},
		{Kind: api.GradeList, CDL: api.CDL{Slope: [3]float32{1, 2, 3}, Offset: [3]float32{-1, -2, -3}, Power: [3]float32{4, 5, 6}, Saturation: 0.5}},
		curved(linear(0, 10, 1, 11), api.Curve{}, smooth(-1, 0.5, 2, -0.25, 3, 1e10), api.Curve{}),
		curved(),
		{Kind: api.GradeMixer, Mixer: api.Mixer{Rows: [12]float32{1, 2, 3, 4, 5, 6, 7, 8, 9, 10, 11, 12}}},
		contrast(0.18, -2),
		printer(0, 50, 7),
	}
	return l, "wheels 0 -0 -1 1 0.0625 16 0.1 3.4028235e+38 1e-45\n" +
		"list 1 2 3 -1 -2 -3 4 5 6 0.5\n" +
		"curves linear 2 0 10 1 11 - smooth 3 -1 0.5 2 -0.25 3 1e+10 -\n" +
		"curves - - - -\n" +
		"mixer 1 2 3 4 5 6 7 8 9 10 11 12\n" +
		"contrast 0.18 -2\n" +
		"printer 0 50 7\n"
}

// checkRead tells of a text of which Parse does not make this list.
func checkRead(t *testing.T, text string, want []api.Grade) {
	t.Helper()
	got, line, e := grade.Parse(text)
	if e != api.OK || line != 0 {
		t.Errorf("Parse of %.200q: line %d, error %d", text, line, e)
	}
	checkGrades(t, got, want, "Parse", text[:min(len(text), 200)])
}

// unread tells of a text that Parse does not refuse like this.
func unread(t *testing.T, text string, line int, want api.Errno) {
	t.Helper()
	got, n, e := grade.Parse(text)
	if n != line {
		t.Errorf("Parse of %.200q: line %d, want %d", text, n, line)
	}
	refused(t, got, e, want, "Parse", text[:min(len(text), 200)])
}

func TestP73Print(t *testing.T) {
	l, want := written()
	text, e := grade.Print(l)
	if text != want || e != api.OK {
		t.Errorf("Print: %q, error %d, want %q", text, e, want)
	}
	checkRead(t, want, l)
	for i, line := range strings.SplitAfter(strings.TrimSuffix(want, "\n"), "\n") {
		text, _ := grade.Print(l[i : i+1])
		if strings.TrimSuffix(text, "\n") != strings.TrimSuffix(line, "\n") {
			t.Errorf("Print of %v: %q, want %q", l[i], text, line)
		}
		checkRead(t, line, l[i:i+1])
	}
	for _, l := range [][]api.Grade{nil, {}} {
		if text, e := grade.Print(l); text != "" || e != api.OK {
			t.Errorf("Print of nothing: %q, error %d", text, e)
		}
	}
	for name, c := range badLists() {
		text, e := grade.Print(c.list)
		refused(t, text, e, c.error, name)
	}
	for _, c := range badGrades() {
		text, e := grade.Print([]api.Grade{printer(1, 2, 3), c.grade})
		refused(t, text, e, c.error, c.grade)
	}
}

func TestP73ParseOfPrint(t *testing.T) {
	m := mixer{}
	lists := [][]api.Grade{nil, goodGrades()}
	for i := range 200 {
		lists = append(lists, m.grades(i%(api.MaxGrades+1)))
	}
	long := make([]api.Grade, api.MaxGrades)
	for i := range long {
		long[i] = curved(m.curve(1, 32), m.curve(2, 32), m.curve(1, 32), m.curve(2, 32))
	}
	for _, l := range append(lists, long) {
		text, e := grade.Print(l)
		checkError(t, e, api.OK, "Print", l)
		if strings.Count(text, "\n") != len(l) {
			t.Errorf("Print of %d grades: %q", len(l), text)
		}
		got, line, e := grade.Parse(text)
		if e != api.OK || line != 0 {
			t.Errorf("Parse of Print: line %d, error %d", line, e)
		}
		for i := range l {
			checkGrades(t, got[i:i+1], []api.Grade{plainZeros(l[i])}, "Parse of Print")
		}
	}
}

// plainZeros returns g with what is not written as it is read: 0.
func plainZeros(g api.Grade) api.Grade {
	plain := api.Grade{Kind: g.Kind}
	return together(plain, g, g.Kind)
}

func TestP73ParseForms(t *testing.T) {
	c, p := contrast(1, 2), printer(0, 5, 50)
	line := curved(linear(0, 1, 2, 3))
	for text, want := range map[string][]api.Grade{
		"": nil, "\n": nil, "\n\n\n": nil, " ": nil, "\t \t\n": nil, "#": nil, "#\n": nil, " # contrast\n": nil, "#\xff\x00\n\n##": nil,
		"contrast 1 2": {c}, "contrast 1 2\n": {c}, "\ncontrast 1 2\n\n": {c}, "contrast\t1\t2": {c}, "contrast \t 1\t  2": {c}, "  contrast 1 2\t": {c}, "\tcontrast 1 2 \n": {c},
		"contrast 1 2#": {c}, "contrast 1 2 # and # more\n": {c}, "contrast 1 2#3": {c}, "# contrast 3 4\ncontrast 1 2 #\n#": {c}, "contrast 1 2\nprinter 0 5 50": {c, p}, "printer 0 5 50#\n \n#\ncontrast 1 2": {p, c},
		"contrast 001 2.0": {c}, "contrast 1e0 20e-1": {c}, "contrast 1e+00 0.2e1": {c}, "contrast 01.00 000002e-0": {c}, "contrast 1.00000001 2": {c},
		"contrast -0 0": {contrast(minusZero(), 0)}, "contrast -00.0 1e-99": {contrast(minusZero(), 0)},
		"curves\tlinear 2 0 1 2 3 - -\t-": {line}, "  curves linear 2 00 1.0 2 3   - - -#": {line},
	} {
		checkRead(t, text, want)
	}
	many := strings.Repeat("printer 0 5 50\n#\n\n", api.MaxGrades)
	list := make([]api.Grade, api.MaxGrades)
	for i := range list {
		list[i] = p
	}
	checkRead(t, many, list)
	checkRead(t, strings.Repeat("\n", api.MaxText), nil)
	checkRead(t, strings.Repeat(" ", api.MaxText-15)+"printer 0 5 50#", []api.Grade{p})
	checkRead(t, "printer 0 5 50#"+strings.Repeat("x", api.MaxText-15), []api.Grade{p})
}

func TestP73ParseSyntax(t *testing.T) {
	const ten = " 1 1 1 1 1 1 1 1 1 1"
	long := "0." + strings.Repeat("0", 99)
	for _, line := range []string{
		"x", "-", "1", "\r", "Contrast 1 2", "contrasts 1 2", "contras 1 2", "contrast", "contrast 1", "contrast 1 2 3", "contrast 1 2\r", "contrast 1,2", "contrast\u00a01 2", "contrast\v1 2", "contrast 1 x", "contrast x 1",
		"contrast 1 -", "contrast 1 +2", "contrast 1 .5", "contrast 1 5.", "contrast 1 1e", "contrast 1 1e1000", "contrast 1 0x1", "contrast 1 NaN", "contrast 1 Inf", "contrast 1 +inf", "contrast 1 1_0", "contrast 1 \xff", "contrast 1 " + long,
		"contrast# 1 2", "contrast 1 # 2", "wheels 1 1 1 1 1 1 1 1", "wheels" + ten, "list 1 1 1 1 1 1 1 1 1", "list 1" + ten, "wheels 1 1 1 1 x 1 1 1 1", "list" + ten[2:] + " x",
		"mixer 1" + ten, "mixer 1 1 1" + ten, "mixer x 1" + ten, "mixer 1 x" + ten, "mixer", "list", "wheels", "printer",
		"printer 1 2", "printer 1 2 3 4", "printer 01 2 3", "printer 1 00 3", "printer 1 2 3.0", "printer 1 2 3e0", "printer 1 2 +3", "printer 1 -0 3", "printer 1 2 -03", "printer 1 2 x", "printer x 2 3", "printer 1 2 nan", "printer 1 2 0x1",
		"printer 1 2 99999999999999999999", "printer 1 2 -9223372036854775809", "printer 1 2 1_0", "printer 1 2 -",
		"curves", "curves -", "curves - - -", "curves - - - - -", "curves - - - x", "curves x - - -", "curves -- - - -", "curves 2 0 0 1 1 - - -",
		"curves linear - - -", "curves - - - linear", "curves - - - linear 2", "curves - - - linear 2 0 0 1", "curves - - - linear 2 0 0 1 1 2", "curves linear 2 0 0 1 - - -", "curves linear 3 0 0 1 1 - - -", "curves - smooth 1 0 0 1 1 - -",
		"curves linear 0 - - -", "curves smooth 0 - - -", "curves linear -1 - - -", "curves linear 02 0 0 1 1 - - -", "curves linear +2 0 0 1 1 - - -", "curves linear 2.0 0 0 1 1 - - -", "curves linear x 0 0 1 1 - - -", "curves - - - linear 0",
		"curves Linear 2 0 0 1 1 - - -", "curves bent 2 0 0 1 1 - - -", "curves linear 2 0 0 x 1 - - -", "curves linear 2 0 0 1 x - - -", "curves linear 2 x 0 1 1 - - -", "curves linear 2 0 - 1 1 - - -",
		"curves - - - linear 9223372036854775807 0 0", "curves - - - linear 9223372036854775808 0 0", "curves - - - linear 4611686018427387904", "curves - - - smooth 4611686018427387905 0 0", "curves - - - linear -9223372036854775808", "curves - - - linear 99999999999999999999 0 0",
	} {
		unread(t, line, 0, api.ErrSyntax)
		unread(t, line+"\n", 0, api.ErrSyntax)
		unread(t, "\n# more\n \n"+line+"\nx\n", 3, api.ErrSyntax)
		unread(t, "printer 99 0 0\n"+line, 1, api.ErrSyntax) // all lines come ahead of all grades
		unread(t, strings.Repeat("contrast nan 2\n", 100)+line+" # more", 100, api.ErrSyntax)
	}
	unread(t, "contrast 1 "+long[:100]+" #\nx", 1, api.ErrSyntax)
}

func TestP73ParseErrors(t *testing.T) {
	for text, want := range map[string]api.Errno{
		"contrast nan 1": api.ErrForm, "contrast 1 inf": api.ErrForm, "contrast -inf 1": api.ErrForm, "contrast 1e39 1": api.ErrForm, "mixer nan 0 0 0 0 0 0 0 0 0 0 0": api.ErrForm,
		"wheels 0 0 0 0 1 1 1 1 1": api.ErrRange, "wheels 0 0 0 0 1 1 1 1 -1e99": api.ErrForm, "list 1 1 1 0 0 0 1 1 1 9": api.ErrRange, "list -1 1 1 0 0 0 1 1 1 1": api.ErrRange,
		"printer 25 25 51": api.ErrRange, "printer -1 0 0": api.ErrRange, "printer 0 " + strconv.Itoa(math.MaxInt) + " 0": api.ErrRange, "printer 0 0 " + strconv.Itoa(math.MinInt): api.ErrRange,
		"curves linear 1 0 0 - - -": api.ErrForm, "curves - - - smooth 2 0 0 0 1": api.ErrOrder, "curves - linear 2 0 0 1 nan - -": api.ErrForm, "curves - linear 2 1 0 0 0 smooth 1 0 0 -": api.ErrOrder,
		"curves - - linear 33" + strings.Repeat(" 0 0", 33) + " -": api.ErrForm, "curves smooth 32" + strings.Repeat(" 0 0", 32) + " - - -": api.ErrOrder,
	} {
		unread(t, text, 0, want)
		unread(t, "\n# more\nprinter 1 2 3\n"+text+"\n", 0, want)
		unread(t, text+"\nprinter 99 0 0\ncontrast nan 0\n", 0, want)
		unread(t, text+"\n"+strings.Repeat("contrast 1 2\n", api.MaxGrades), 0, api.ErrLarge)
	}
	many := strings.Repeat("contrast 1 2\n", api.MaxGrades+1)
	unread(t, many, 0, api.ErrLarge)
	unread(t, many+"x", api.MaxGrades+1, api.ErrSyntax)
	unread(t, strings.Repeat("printer 0 0 0\n", api.MaxText/14), 0, api.ErrLarge)
	for _, head := range []string{"", "x\n", "contrast 1 2\n", "#"} {
		unread(t, head+strings.Repeat("\n", api.MaxText+1-len(head)), 0, api.ErrLarge)
		unread(t, head+strings.Repeat("x", api.MaxText+1-len(head)), 0, api.ErrLarge)
	}
}
