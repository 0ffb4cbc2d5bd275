package node_test

import (
	"slices"
	"testing"

	"dyehouse/api"
	"dyehouse/node"
)

// goodGrade, goodCube and goodFrames have no errors.
func goodGrade() api.Grade { return api.Grade{Kind: api.GradeContrast, Pivot: 0.5, Amount: 2} }

func goodCube() api.Cube { return api.Cube{Size: 2, High: 1, V: make([]float32, 24)} }

func goodFrames() []api.KeyFrame {
	return []api.KeyFrame{{Ease: api.EaseHold, Window: api.Window{Kind: api.WindowBox}}}
}

// goodLibrary has that many things of each list.
func goodLibrary(n int) api.Library {
	return api.Library{
		Grades:  many(n, func() []api.Grade { return []api.Grade{goodGrade()} }),
		Cubes:   many(n, goodCube),
		Windows: many(n, goodFrames),
	}
}

// badLibrary is a library with the error that it has.
type badLibrary struct {
	what  string
	spoil func(l *api.Library)
	error api.Errno
}

// badLibraries spoil a library that has at least two things of each list: those that
// stand ahead of others here have their errors ahead of theirs.
func badLibraries() []badLibrary {
	grades := func(i int, list ...api.Grade) func(l *api.Library) {
		return func(l *api.Library) { l.Grades[i] = list }
	}
	cubed := func(i int, change func(c *api.Cube)) func(l *api.Library) {
		return func(l *api.Library) { change(&l.Cubes[i]) }
	}
	framed := func(i int, list ...api.KeyFrame) func(l *api.Library) {
		return func(l *api.Library) { l.Windows[i] = list }
	}
	window := goodFrames()[0]
	return []badLibrary{
		{"17 lists of grades", func(l *api.Library) { l.Grades = append(goodLibrary(15).Grades, l.Grades[:2]...) }, api.ErrLarge},
		{"17 cubes", func(l *api.Library) { l.Cubes = append(goodLibrary(15).Cubes, l.Cubes[:2]...) }, api.ErrLarge},
		{"17 lists of windows", func(l *api.Library) { l.Windows = append(goodLibrary(15).Windows, l.Windows[:2]...) }, api.ErrLarge},
		{"a grade of no kind", grades(0, goodGrade(), api.Grade{}), api.ErrKind},
		{"a grade with a NaN", grades(0, api.Grade{Kind: api.GradeContrast, Pivot: nan()}), api.ErrForm},
		{"65 grades", grades(1, append(slices.Repeat([]api.Grade{{}}, 64), goodGrade())...), api.ErrLarge},
		{"printer points of 51", grades(1, goodGrade(), api.Grade{Kind: api.GradePrinter, Points: [3]int{0, 0, 51}}), api.ErrRange},
		{"two grades in one", grades(1, api.Grade{Kind: api.GradeMixer, Amount: 1}), api.ErrConflict},
		{"a cube of size 18", cubed(0, func(c *api.Cube) { c.Size = 18 }), api.ErrRange},
		{"a cube without an entry", cubed(0, func(c *api.Cube) { c.V = c.V[1:] }), api.ErrForm},
		{"a cube without height", cubed(1, func(c *api.Cube) { c.High = 0 }), api.ErrOrder},
		{"a cube that is too high", cubed(1, func(c *api.Cube) { c.High = 1 << 21 }), api.ErrRange},
		{"no key frames", framed(0), api.ErrEmpty},
		{"a window of no kind", framed(0, api.KeyFrame{Ease: api.EaseHold}), api.ErrKind},
		{"two windows at once", framed(1, window, window), api.ErrOrder},
		{"101 key frames", framed(1, slices.Repeat([]api.KeyFrame{{Frame: -1}}, 101)...), api.ErrLarge},
	}
}

func TestP176Libraries(t *testing.T) {
	for _, n := range []int{0, 1, 15, 16} {
		checkError(t, node.CheckLibrary(goodLibrary(n)), api.OK, n)
	}
	l := goodLibrary(1)
	l.Grades = [][]api.Grade{nil, {}, slices.Repeat([]api.Grade{goodGrade()}, 64)}
	l.Cubes[0].V[0] = nan()
	checkError(t, node.CheckLibrary(l), api.OK, "64 grades, none, and a NaN in a cube")
	l.Grades[2] = slices.Repeat([]api.Grade{goodGrade()}, 65)
	checkError(t, node.CheckLibrary(l), api.ErrLarge, "65 grades")
	l = goodLibrary(1)
	l.Windows[0] = nil
	for i := range 100 {
		l.Windows[0] = append(l.Windows[0], api.KeyFrame{Frame: i, Ease: api.EaseSmooth, Window: api.Window{Kind: api.WindowBox}})
	}
	checkError(t, node.CheckLibrary(l), api.OK, "100 key frames")
}

func TestP176ErrorsOfLibraries(t *testing.T) {
	all := badLibraries()
	for i, first := range all {
		l := goodLibrary(2)
		first.spoil(&l)
		checkError(t, node.CheckLibrary(l), first.error, first.what)
		for _, second := range all[i+1:] {
			l := goodLibrary(2)
			second.spoil(&l)
			first.spoil(&l)
			checkError(t, node.CheckLibrary(l), first.error, first.what, second.what)
		}
	}
}
