package conform_test

import (
	"slices"
	"testing"

	"dyehouse/api"
	"dyehouse/conform"
)

// savedBook has versions with these parents, from version 1 on, each with a look of
// its own.
func savedBook(t *testing.T, parents ...int) *conform.Book {
	t.Helper()
	b := conform.NewBook()
	for i, parent := range parents {
		n, e := b.Save(parent, manyShots("v", i%5), "x")
		is(t, n, e, i+1, "Save", parents)
	}
	return b
}

// isBook tells of a book that has not this text.
func isBook(t *testing.T, b *conform.Book, want string, what ...any) {
	t.Helper()
	if text := b.Text(); text != want {
		t.Errorf("%s: text %.2000q, want %.2000q", about(what), text, want)
	}
}

func TestP219SavedLooks(t *testing.T) {
	m := mixer{}
	b := conform.NewBook()
	var looks []api.Look
	for i := range 60 {
		k := m.look()
		n, e := b.Save(m.below(i+1), k, one(&m, append(goodTexts(), "")...))
		is(t, n, e, i+1, "Save")
		looks = append(looks, k)
	}
	for i, want := range looks {
		k, e := b.Look(i + 1)
		isLook(t, k, e, want, "Look", i+1)
	}
	k := api.Look{Rows: []api.LookRow{row("a", someGrades()[8]...), row("b", someGrades()[6]...), row("c", someGrades()[5]...)}}
	n, e := b.Save(60, k, "")
	is(t, n, e, 61, "Save")
	got, e := b.Look(61)
	isLook(t, got, e, k, "Look")
}

func TestP219ErrorsOfSave(t *testing.T) {
	type saved struct {
		parent int
		look   api.Look
		note   string
	}
	full := savedBook(t, make([]int, api.MaxVersions)...)
	b := savedBook(t, 0, 1, 0)
	was := b.Text()
	spoilers := []spoiler[saved]{
		{api.ErrNone, func(v *saved) { v.parent = 4 }},
		{api.ErrName, func(v *saved) { v.look.Rows[0].Shot = "" }},
		{api.ErrOrder, func(v *saved) { v.look.Rows[1].Shot = "a" }},
		{api.ErrKind, func(v *saved) { v.look.Rows[1].Grades[0].Kind = 0 }},
		{api.ErrForm, func(v *saved) { v.note = "\n" }},
	}
	good := func() saved { return saved{2, twoRows(), "note"} }
	checkSpoilers(t, good, spoilers, func(v saved) api.Errno {
		n, e := b.Save(v.parent, v.look, v.note)
		if e == api.OK {
			b = savedBook(t, 0, 1, 0)
			return e
		}
		refused(t, n, e, e, v)
		isBook(t, b, was, "Save", v)
		return e
	})
	for _, parent := range append(badInts(), 4, 1000) {
		n, e := b.Save(parent, api.Look{}, "")
		refused(t, n, e, api.ErrNone, parent)
	}
	for _, note := range badTexts() {
		n, e := b.Save(0, api.Look{}, note)
		refused(t, n, e, api.ErrForm, note)
	}
	isBook(t, b, was, "Save")
	for i, v := range []saved{{0, api.Look{}, ""}, {1000, twoRows(), "x"}, {-1, manyShots("s", 501), "\n"}, {5, api.Look{}, "\n"}} {
		n, e := full.Save(v.parent, v.look, v.note)
		refused(t, n, e, api.ErrLarge, "full", i)
	}
	k, e := full.Look(1000)
	isLook(t, k, e, manyShots("v", 4), "Look")
}

func TestP219LinesAndForks(t *testing.T) {
	b := savedBook(t, 0, 1, 2, 2, 0, 5, 3, 4)
	for version, want := range map[int][]int{1: {1}, 2: {2, 1}, 3: {3, 2, 1}, 4: {4, 2, 1}, 5: {5}, 6: {6, 5}, 7: {7, 3, 2, 1}, 8: {8, 4, 2, 1}} {
		l, e := b.Line(version)
		areList(t, l, e, want, "Line", version)
	}
	for pair, want := range map[[2]int]int{{1, 1}: 1, {7, 7}: 7, {3, 4}: 2, {7, 8}: 2, {8, 7}: 2, {7, 3}: 3, {3, 7}: 3, {1, 7}: 1, {8, 1}: 1, {4, 2}: 2, {5, 6}: 5, {6, 5}: 5, {6, 7}: 0, {1, 5}: 0, {5, 8}: 0} {
		n, e := b.Fork(pair[0], pair[1])
		is(t, n, e, want, "Fork", pair)
	}
	m := mixer{}
	var parents []int
	for i := range 100 {
		parents = append(parents, one(&m, m.below(i+1), i, max(i-1, 0)))
	}
	b = savedBook(t, parents...)
	for range 500 {
		v, w := m.from(1, 100), m.from(1, 100)
		// The versions that both come of, found from w on; the greatest one is nearest.
		of := map[int]bool{}
		for n := w; n > 0; n = parents[n-1] {
			of[n] = true
		}
		want := v
		for want > 0 && !of[want] {
			want = parents[want-1]
		}
		n, e := b.Fork(v, w)
		is(t, n, e, want, "Fork", v, w)
	}
}

func TestP219NoSuchVersion(t *testing.T) {
	b := savedBook(t, 0, 1, 2)
	was := b.Text()
	for _, n := range append(badInts(), 0, 4, 1000) {
		k, e := b.Look(n)
		refusedLook(t, k, e, api.ErrNone, n)
		l, e := b.Line(n)
		refusedList(t, l, e, api.ErrNone, n)
		for _, pair := range [][2]int{{n, 1}, {1, n}, {n, n}} {
			v, e := b.Fork(pair[0], pair[1])
			refused(t, v, e, api.ErrNone, pair)
			v, conflicts, e := b.Join(pair[0], pair[1], "\n")
			refused(t, v, e, api.ErrNone, pair)
			refusedList(t, conflicts, e, api.ErrNone, pair)
		}
	}
	isBook(t, b, was, "no such version")
	k, e := conform.NewBook().Look(1)
	refusedLook(t, k, e, api.ErrNone, "an empty book")
}

// Joins are checked against looks that are merged beside the book.
func TestP219Joins(t *testing.T) {
	m := mixer{}
	some := 0
	for range 30 {
		b := conform.NewBook()
		looks, parents := []api.Look{{}}, []int{0}
		for n := 1; n <= 30; n++ {
			want, parent := m.look(), m.below(n)
			if n < 3 || m.below(2) == 0 {
				got, e := b.Save(parent, want, "saved")
				is(t, got, e, n, "Save")
			} else {
				parent = m.from(1, n-1)
				w := m.from(1, n-1)
				fork, e := b.Fork(parent, w)
				checkError(t, e, api.OK, "Fork")
				merged, conflicts := mergedRows(looks[fork], looks[parent], looks[w])
				got, l, e := b.Join(parent, w, "joined")
				is(t, got, e, n, "Join")
				areList(t, l, e, conflicts, "Join", parent, w)
				want = merged
				some += len(l)
			}
			looks, parents = append(looks, want), append(parents, parent)
			k, e := b.Look(n)
			isLook(t, k, e, want, "Look", n)
			line, e := b.Line(n)
			if e != api.OK || line[0] != n || parent > 0 && line[1] != parent || len(line) == 1 != (parent == 0) {
				t.Error("Line", line, e, parents)
			}
		}
	}
	if some < 100 {
		t.Error("only", some, "conflicts")
	}
}

func TestP219JoinsOfOtherTrees(t *testing.T) {
	b := conform.NewBook()
	g, h := someGrades()[1], someGrades()[2]
	for _, k := range []api.Look{{Rows: []api.LookRow{row("a", g...), row("b", g...)}}, {Rows: []api.LookRow{row("b", h...), row("c", h...)}}} {
		_, e := b.Save(0, k, "")
		checkError(t, e, api.OK, k)
	}
	n, l, e := b.Join(1, 2, "both")
	is(t, n, e, 3, "Join")
	areList(t, l, e, []string{"b"}, "Join")
	k, e := b.Look(3)
	isLook(t, k, e, api.Look{Rows: []api.LookRow{row("a", g...), row("b", g...), row("c", h...)}}, "Look")
	line, e := b.Line(3)
	areList(t, line, e, []int{3, 1}, "Line")
	// With itself, a version is saved once more.
	n, l, e = b.Join(3, 3, "")
	is(t, n, e, 4, "Join")
	areList(t, l, e, nil, "Join")
	again, e := b.Look(4)
	isLook(t, again, e, k, "Look")
}

func TestP219ErrorsOfJoin(t *testing.T) {
	b := conform.NewBook()
	for _, k := range []api.Look{manyShots("s", 500), manyShots("t", 1)} {
		_, e := b.Save(0, k, "")
		checkError(t, e, api.OK, "Save")
	}
	was := b.Text()
	refuse := func(b *conform.Book, v, w int, note string, want api.Errno) {
		t.Helper()
		n, l, e := b.Join(v, w, note)
		refused(t, n, e, want, v, w, note)
		refusedList(t, l, e, want, v, w, note)
	}
	refuse(b, 1, 2, "x", api.ErrLarge)
	refuse(b, 1, 2, "\n", api.ErrLarge)
	refuse(b, 1, 3, "\n", api.ErrNone)
	for _, note := range badTexts() {
		refuse(b, 1, 1, note, api.ErrForm)
	}
	isBook(t, b, was, "Join")
	full := savedBook(t, make([]int, api.MaxVersions)[:400]...)
	for n := 401; n <= api.MaxVersions; n++ {
		_, e := full.Save(n-1, api.Look{}, "")
		checkError(t, e, api.OK, n)
	}
	refuse(full, 1, 2, "x", api.ErrLarge)
	refuse(full, 1, 2, "\n", api.ErrLarge)
	refuse(full, 1, 1001, "x", api.ErrNone)
	line, e := full.Line(1000)
	if e != api.OK || len(line) != 601 || !slices.IsSortedFunc(line, func(a, b int) int { return b - a }) {
		t.Error("Line", len(line), e)
	}
}

// Many versions of a long look need not many times its memory: this would need more
// than there is.
func TestP219ManyVersionsOfALongLook(t *testing.T) {
	k := manyShots("s", 500)
	for i := range k.Rows {
		k.Rows[i].Grades = someGrades()[8]
	}
	b := conform.NewBook()
	_, e := b.Save(0, k, "")
	checkError(t, e, api.OK, "Save")
	for n := 2; n <= api.MaxVersions; n++ {
		_, _, e := b.Join(n-1, 1, "")
		checkError(t, e, api.OK, n)
	}
	got, e := b.Look(1000)
	isLook(t, got, e, k, "Look")
	other, line, e := conform.ParseBook(b.Text())
	if e != api.OK || line != 0 {
		t.Fatal("ParseBook", line, e)
	}
	got, e = other.Look(1000)
	isLook(t, got, e, k, "Look")
}
