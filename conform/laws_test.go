package conform_test

import (
	"math"
	"slices"
	"strings"
	"testing"

	"dyehouse/api"
	"dyehouse/conform"
	"dyehouse/grade"
)

func sameBits(v, w float32) bool { return math.Float32bits(v) == math.Float32bits(w) }

// graded is a frame as a look grades it for a shot; without a row it stays.
func graded(t *testing.T, k api.Look, shot string) []float32 {
	t.Helper()
	m := mixer{}
	f := api.Frame{Region: api.Region{W: 5, H: 3}, V: make([]float32, 60)}
	for i := range f.V {
		f.V[i] = float32(m.from(-100, 1100)) / 1000
	}
	r, _ := rowOf(k, shot)
	f, e := grade.ApplyAll(r.Grades, f)
	checkError(t, e, api.OK, shot)
	return f.V
}

// gradeAlike tells of looks that do not grade all shots in the same way.
func gradeAlike(t *testing.T, k, l api.Look) {
	t.Helper()
	for _, shot := range shots() {
		if !slices.EqualFunc(graded(t, k, shot), graded(t, l, shot), sameBits) {
			t.Errorf("shot %q is graded otherwise by %v than by %v", shot, k, l)
		}
	}
}

func TestP302LooksGradeAlike(t *testing.T) {
	m := mixer{}
	some := func() api.Look {
		var k api.Look
		for _, shot := range shots() {
			if m.below(3) > 0 {
				k.Rows = append(k.Rows, row(shot, one(&m, someGrades()...)...))
			}
		}
		return k
	}
	for range 60 {
		a, b := some(), some()
		l, e := conform.Diff(a, b)
		checkError(t, e, api.OK, "Diff")
		k, e := conform.Apply(a, l)
		checkError(t, e, api.OK, "Apply")
		gradeAlike(t, k, b)
		k, e = conform.Apply(k, conform.Undo(l))
		checkError(t, e, api.OK, "Undo")
		gradeAlike(t, k, a)
		book := conform.NewBook()
		for n, k := range []api.Look{a, b} {
			_, e := book.Save(n, k, "")
			checkError(t, e, api.OK, "Save")
		}
		read, _, e := conform.ParseBook(book.Text())
		checkError(t, e, api.OK, "ParseBook")
		for n, want := range []api.Look{a, b} {
			k, e := read.Look(n + 1)
			checkError(t, e, api.OK, "Look")
			gradeAlike(t, k, want)
		}
	}
}

// sameFilm tells of lists that have not the same in each frame.
func sameFilm(t *testing.T, a, b api.EditList) {
	t.Helper()
	for frame := range max(endOfList(a), endOfList(b)) + 2 {
		s, e := conform.At(a, frame)
		u, f := conform.At(b, frame)
		if s != u || e != f {
			t.Errorf("frame %d: %v, error %d, and %v, error %d", frame, s, e, u, f)
		}
	}
	l, e := conform.Compare(a, b)
	areList(t, l, e, nil, "Compare")
}

func TestP305FilmsAreReadBack(t *testing.T) {
	m := mixer{}
	for range 300 {
		l := m.list(m.below(8))
		text, e := conform.PrintList(l)
		checkError(t, e, api.OK, l)
		k, line, e := conform.ParseList(text)
		if e != api.OK || line != 0 {
			t.Errorf("ParseList %q: error %d in line %d", text, e, line)
		}
		sameFilm(t, l, k)
		k, _, e = conform.ParseList(strings.ReplaceAll(text, " ", "\t "))
		checkError(t, e, api.OK, text)
		sameFilm(t, l, k)
	}
}

func TestP305SlippedFilms(t *testing.T) {
	m := mixer{}
	for range 300 {
		l := m.list(m.from(1, 8))
		event, by := m.below(len(l.Events)), m.from(-20, 20)
		for _, edit := range []func(api.EditList, int, int) (api.EditList, api.Errno){conform.Slip, conform.Trim} {
			k, e := edit(l, event, by)
			if e != api.OK {
				continue
			}
			if parts, e := conform.Compare(l, k); e != api.OK || (len(parts) == 0) != (by == 0) {
				t.Error("Compare", l, k, parts, e)
			}
			k, e = edit(k, event, -by)
			isList(t, k, e, l, event, by)
			sameFilm(t, k, l)
		}
	}
}
