package conform_test

import (
	"fmt"
	"math"
	"slices"
	"strings"
	"testing"

	"dyehouse/api"
	"dyehouse/conform"
	"dyehouse/grade"
)

const far = 1 << 24 // the greatest number of a frame

func single(b uint32) float32 { return math.Float32frombits(b) }

func minusZero() float32 { return single(0x80000000) }

// badInts are integers that are beyond each bound of this chapter.
func badInts() []int {
	return []int{-1, -1 << 25, 1 << 26, -1<<32 + 1, 1<<32 + 1, 1 << 62, math.MaxInt, math.MinInt}
}

// mixer makes numbers that have no pattern, the same in every run.
type mixer struct{ state uint64 }

func (m *mixer) next() uint32 {
	m.state += 0x9e3779b97f4a7c15
	z := m.state
	z = (z ^ z>>30) * 0xbf58476d1ce4e5b9
	z = (z ^ z>>27) * 0x94d049bb133111eb
	return uint32(z >> 32)
}

// below returns an integer from 0 to below n.
func (m *mixer) below(n int) int { return int(m.next()>>1) % n }

// from returns an integer from low to high.
func (m *mixer) from(low, high int) int { return low + m.below(high-low+1) }

// one returns one of several.
func one[T any](m *mixer, l ...T) T { return l[m.below(len(l))] }

// spoiled returns a text with a byte changed, left out or put in.
func (m *mixer) spoiled(text, bytes string) string {
	at := m.below(len(text))
	more := string(bytes[m.below(len(bytes))])
	switch m.below(3) {
	case 0:
		return text[:at] + more + text[at+1:]
	case 1:
		return text[:at] + text[at+1:]
	}
	return text[:at] + more + text[at:]
}

// longName and longText have as many bytes as there may be.
func longName() string { return strings.Repeat("x", 40) }
func longText() string { return strings.Repeat("y", 1000) }

func goodNames() []string {
	return []string{"a", "z", "A", "Z", "0", "9", "-", ".", "_", "-1", "..", "a.B-c_9", "open", "note", longName()}
}

func badNames() []string {
	l := []string{"", longName() + "x", "a b", " a", "a ", "a\tb", "a\n", "\x00", "a\x7f", "\xff", "é", "a:", "a;b", "a,b"}
	// The bytes next to those that there may be.
	for _, b := range "/:@[`{,^+" {
		l = append(l, string(b), "a"+string(b), string(b)+"a")
	}
	return l
}

func goodTexts() []string {
	return []string{" ", "a", "too dark", " a: b ", "\x7f", "\xff\x80", "é", "open: x", "note 1 a 0 b open: c", longText()}
}

// badTexts are no texts of notes.
func badTexts() []string {
	l := []string{longText() + "y", longText() + "\n", "a\nb", "a\n", "\ta", "a\r", strings.Repeat("é", 501)}
	for b := range 32 {
		l = append(l, string([]byte{byte(b)}), "a"+string([]byte{byte(b)}))
	}
	return l
}

// about is what a test speaks of, but not too much of it.
func about(what []any) string {
	text := fmt.Sprint(what...)
	return text[:min(len(text), 300)]
}

// checkError tells of an error that is not want.
func checkError(t *testing.T, got, want api.Errno, what ...any) {
	t.Helper()
	if got != want {
		t.Errorf("%s: error %d, want %d", about(what), got, want)
	}
}

// is tells of a result that is not want.
func is[T comparable](t *testing.T, got T, e api.Errno, want T, what ...any) {
	t.Helper()
	if got != want || e != api.OK {
		t.Errorf("%s: got %s, error %d, want %s", about(what), about([]any{got}), e, about([]any{want}))
	}
}

// areList does so for lists.
func areList[T comparable](t *testing.T, got []T, e api.Errno, want []T, what ...any) {
	t.Helper()
	if !slices.Equal(got, want) || e != api.OK {
		t.Errorf("%s: got %s, error %d, want %s", about(what), about([]any{got}), e, about([]any{want}))
	}
}

// refused tells of a call that has not this error, or a result beside it.
func refused[T comparable](t *testing.T, got T, e, want api.Errno, what ...any) {
	t.Helper()
	var nothing T
	if e != want || got != nothing {
		t.Errorf("%s: got %s, error %d, want %d", about(what), about([]any{got}), e, want)
	}
}

// refusedList does so for lists.
func refusedList[T any](t *testing.T, got []T, e, want api.Errno, what ...any) {
	t.Helper()
	if e != want || len(got) != 0 {
		t.Errorf("%s: got %s, error %d, want %d", about(what), about([]any{got}), e, want)
	}
}

// spoiler makes something wrong that has no error, or only those behind it.
type spoiler[T any] struct {
	error api.Errno
	spoil func(v *T)
}

// checkSpoilers tells of things with an error, or two, that do not have that of the
// first spoiler: each of them alone, and all pairs.
func checkSpoilers[T any](t *testing.T, good func() T, spoilers []spoiler[T], check func(v T) api.Errno) {
	t.Helper()
	checkError(t, check(good()), api.OK, "nothing spoiled")
	for i, s := range spoilers {
		v := good()
		s.spoil(&v)
		checkError(t, check(v), s.error, "spoiler", i)
		for j := i + 1; j < len(spoilers); j++ {
			v := good()
			spoilers[j].spoil(&v)
			s.spoil(&v)
			checkError(t, check(v), s.error, "spoilers", i, j)
		}
	}
}

// event returns an event behind one that ends there.
func (m *mixer) event(end int, isFirst bool) api.Event {
	v := api.Event{Reel: one(m, "a", "b", "c"), Kind: api.EventCut, At: end}
	v.In = one(m, 0, 1, m.below(30), m.below(2000))
	v.Out = v.In + m.from(1, 12)
	switch {
	case !isFirst && m.below(2) == 0:
		v.Kind, v.Length = api.EventDissolve, m.from(1, v.Out-v.In)
	case m.below(2) == 0:
		v.At += m.below(6)
	}
	return v
}

// list returns an edit list of so many events.
func (m *mixer) list(n int) api.EditList {
	l := api.EditList{Title: "film", Rate: one(m, 24, 25, 29, 30, 48, 50, 60)}
	end := m.below(3)
	for i := range n {
		v := m.event(end, i == 0)
		l.Events = append(l.Events, v)
		end = v.At + v.Out - v.In
	}
	return l
}

// near returns a list with a few changes, which has no error either.
func (m *mixer) near(l api.EditList) api.EditList {
	for range m.below(4) {
		event, by := m.below(len(l.Events)+1), m.from(-3, 3)
		edit := one(m, conform.Slip, conform.Trim)
		if x, e := edit(l, event, by); e == api.OK {
			l = x
		}
		if m.below(3) == 0 && len(l.Events) > 0 {
			l.Events = slices.Clone(l.Events)
			i := m.below(len(l.Events))
			l.Events[i].Reel = one(m, "a", "b", "c")
		}
		if m.below(6) == 0 && len(l.Events) > 0 {
			x := l
			x.Events = slices.Clone(l.Events[:len(l.Events)-1])
			l = x
		}
	}
	return l
}

// endOfList is the frame behind all events.
func endOfList(l api.EditList) int {
	if len(l.Events) == 0 {
		return 0
	}
	v := l.Events[len(l.Events)-1]
	return v.At + v.Out - v.In
}

// someGrades are lists of grades that are not the same.
func someGrades() [][]api.Grade {
	contrast := api.Grade{Kind: api.GradeContrast, Pivot: 0.5, Amount: 1.25}
	printer := api.Grade{Kind: api.GradePrinter, Points: [3]int{25, 0, 50}}
	curves := api.Grade{Kind: api.GradeCurves}
	curves.Curves[1] = api.Curve{Kind: api.CurveSmooth, X: []float32{0, 0.5, 1}, Y: []float32{0, 0.6, 1}}
	curves.Curves[3] = api.Curve{Kind: api.CurveLinear, X: []float32{0, 1}, Y: []float32{0.1, 1}}
	list := api.Grade{Kind: api.GradeList, CDL: api.CDL{Slope: [3]float32{1, 1.5, 2}, Offset: [3]float32{-1, 0, 0.1}, Power: [3]float32{1, 2, 3}, Saturation: 0.5}}
	wheels := api.Grade{Kind: api.GradeWheels, Wheels: api.Wheels{Lift: [3]float32{0.1, 0, 0}, Gamma: [3]float32{1, 2, 1}, Gain: [3]float32{1, 1, 0.9}}}
	mixed := api.Grade{Kind: api.GradeMixer, Mixer: api.Mixer{Rows: [12]float32{0, 1, 0, 0, 1, 0, 0, 0.5, 0, 0, 1, -0.25}}}
	var most []api.Grade
	for i := range api.MaxGrades {
		most = append(most, api.Grade{Kind: api.GradePrinter, Points: [3]int{i % 51, 25, 25}})
	}
	return [][]api.Grade{nil, {contrast}, {printer}, {contrast, printer}, {printer, contrast}, {curves}, {list, wheels}, {mixed, curves, mixed}, most}
}

// badGrades are lists of grades, each with the error that it has.
func badGrades() map[api.Errno][]api.Grade {
	good := api.Grade{Kind: api.GradeContrast}
	return map[api.Errno][]api.Grade{
		api.ErrLarge:    slices.Repeat([]api.Grade{good}, api.MaxGrades+1),
		api.ErrKind:     {good, {Kind: 7}},
		api.ErrForm:     {good, {Kind: api.GradeContrast, Pivot: single(0x7fc00000)}},
		api.ErrRange:    {{Kind: api.GradePrinter, Points: [3]int{51, 0, 0}}},
		api.ErrConflict: {{Kind: api.GradePrinter, Pivot: 1}},
	}
}

// row returns a row of a look.
func row(shot string, grades ...api.Grade) api.LookRow {
	return api.LookRow{Shot: shot, Grades: grades}
}

// shots are names of shots, in order.
func shots() []string { return []string{"-", "10", "9", "A", "_", "a", "a.1", "b"} }

// look returns a look with some shots.
func (m *mixer) look() api.Look {
	var k api.Look
	for _, shot := range shots() {
		if m.below(2) == 0 {
			k.Rows = append(k.Rows, row(shot, someGrades()[m.below(4)]...))
		}
	}
	return k
}

// manyShots is a look with so many shots without grades, named with a letter and
// four digits.
func manyShots(letter string, n int) api.Look {
	var k api.Look
	for i := range n {
		digits := string([]byte{'0' + byte(i/1000%10), '0' + byte(i/100%10), '0' + byte(i/10%10), '0' + byte(i%10)})
		k.Rows = append(k.Rows, row(letter+digits))
	}
	return k
}

// textOf is what grade.Print writes, with a mark for grades with an error.
func textOf(l []api.Grade) string {
	text, e := grade.Print(l)
	if e != api.OK {
		return "error"
	}
	return text
}

// sameLook says whether two looks are the same.
func sameLook(a, b api.Look) bool {
	return slices.EqualFunc(a.Rows, b.Rows, func(r, s api.LookRow) bool {
		return r.Shot == s.Shot && len(r.Grades) == len(s.Grades) && textOf(r.Grades) == textOf(s.Grades)
	})
}

// isLook tells of a look that is not want.
func isLook(t *testing.T, got api.Look, e api.Errno, want api.Look, what ...any) {
	t.Helper()
	if e != api.OK || !sameLook(got, want) {
		t.Errorf("%s: got %s, error %d, want %s", about(what), about([]any{got}), e, about([]any{want}))
	}
}

// sameChange says whether two changes are the same.
func sameChange(c, d api.Change) bool {
	return c.Shot == d.Shot && c.Was == d.Was && c.Is == d.Is && textOf(c.Old) == textOf(d.Old) && textOf(c.New) == textOf(d.New)
}

// areChanges tells of changes that are not want.
func areChanges(t *testing.T, got []api.Change, e api.Errno, want []api.Change, what ...any) {
	t.Helper()
	if e != api.OK || !slices.EqualFunc(got, want, sameChange) {
		t.Errorf("%s: got %s, error %d, want %s", about(what), about([]any{got}), e, about([]any{want}))
	}
}

// refusedLook tells of a look that has not this error, or rows beside it.
func refusedLook(t *testing.T, k api.Look, e, want api.Errno, what ...any) {
	t.Helper()
	refusedList(t, k.Rows, e, want, what...)
}

// written is what writes the text from which it is read.
type written interface {
	comparable
	Text() string
}

// checkSpoiled tells of spoiled texts that are neither refused nor read as what
// writes them again.
func checkSpoiled[T written](t *testing.T, many int, spoiled func() string, read func(text string) (T, int, api.Errno)) {
	t.Helper()
	taken := 0
	var nothing T
	for range many {
		text := spoiled()
		got, line, e := read(text)
		lines := len(strings.Split(strings.TrimSuffix(text, "\n"), "\n"))
		switch {
		case e != api.OK:
			if got != nothing || line < 0 || line > lines {
				t.Errorf("%q: %v, error %d in line %d", text, got, e, line)
			}
		case line != 0 || got.Text() != text:
			t.Errorf("%q is read as %q, line %d", text, got.Text(), line)
		default:
			taken++
		}
	}
	if taken < many/50 {
		t.Error("only", taken, "texts are taken")
	}
}
