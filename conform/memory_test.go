package conform_test

import (
	"reflect"
	"slices"
	"testing"

	"dyehouse/api"
	"dyehouse/conform"
)

// watch notices changes of lists, also of their unused capacity.
type watch struct{ changed []func() bool }

// spare gives a list unused capacity, and watches it.
func spare[T any](w *watch, l []T, more T) []T {
	all := append(slices.Clone(l), more, more)
	was := slices.Clone(all)
	w.changed = append(w.changed, func() bool { return !reflect.DeepEqual(all, was) })
	return all[:len(l)]
}

// check tells of changes.
func (w *watch) check(t *testing.T, what string) {
	t.Helper()
	for i, is := range w.changed {
		if is() {
			t.Fatal(what, "changed list", i)
		}
	}
}

func (w *watch) list(l api.EditList) api.EditList {
	l.Events = spare(w, l.Events, api.Event{Reel: "more"})
	return l
}

func (w *watch) grades(l []api.Grade) []api.Grade {
	l = slices.Clone(l)
	for i := range l {
		for j, c := range l[i].Curves {
			l[i].Curves[j].X, l[i].Curves[j].Y = spare(w, c.X, -7), spare(w, c.Y, -7)
		}
	}
	return spare(w, l, api.Grade{Kind: -7})
}

func (w *watch) look(k api.Look) api.Look {
	for i, r := range k.Rows {
		k.Rows[i].Grades = w.grades(r.Grades)
	}
	k.Rows = spare(w, k.Rows, row("more"))
	return k
}

func (w *watch) changes(l []api.Change) []api.Change {
	for i, c := range l {
		l[i].Old, l[i].New = w.grades(c.Old), w.grades(c.New)
	}
	return spare(w, l, api.Change{Shot: "more"})
}

// scribbleGrades writes over all memory of grades.
func scribbleGrades(l []api.Grade) {
	l = l[:cap(l)]
	for i := range l {
		for _, c := range l[i].Curves {
			for _, v := range [][]float32{c.X[:cap(c.X)], c.Y[:cap(c.Y)]} {
				for j := range v {
					v[j] = -77
				}
			}
		}
		l[i] = api.Grade{Kind: -77}
	}
}

func scribbleRows(l []api.LookRow) {
	l = l[:cap(l)]
	for i := range l {
		scribbleGrades(l[i].Grades)
		l[i] = row("scribble")
	}
}

func scribbleChanges(l []api.Change) {
	l = l[:cap(l)]
	for i := range l {
		scribbleGrades(l[i].Old)
		scribbleGrades(l[i].New)
		l[i] = api.Change{Shot: "scribble"}
	}
}

func scribbleNotes(l []api.Note) {
	l = l[:cap(l)]
	for i := range l {
		scribble(l[i].Replies)
		l[i] = api.Note{Number: -77}
	}
}

func scribble[T any](l []T) {
	var nothing T
	l = l[:cap(l)]
	for i := range l {
		l[i] = nothing
	}
}

// checkOwn calls three times, and scribbles over the first two results, with their
// unused capacity: neither what was handed in nor the third result may notice. A part
// of a result that shares memory with another part is noticed where the parts are
// scribbled over one by one.
func checkOwn[T any](t *testing.T, w *watch, what string, call func() []T, scribble func([]T)) {
	t.Helper()
	want, first := call(), call()
	if len(want) == 0 {
		t.Error(what, "makes nothing")
	}
	for i := range first {
		scribble(first[i : i+1 : i+1])
		for j := range first {
			if j > i && !reflect.DeepEqual(first[j], want[j]) {
				t.Error(what, "has parts that share memory:", i, j)
			}
		}
	}
	scribble(first)
	w.check(t, what)
	if !reflect.DeepEqual(call(), want) {
		t.Error(what, "is not the same again")
	}
	w.check(t, what)
}

// curved is a look in which all rows have the same grades, with curves.
func curved(shots ...string) api.Look {
	var k api.Look
	for _, shot := range shots {
		k.Rows = append(k.Rows, row(shot, someGrades()[7]...))
	}
	return k
}

func TestP214MemoryIsNotShared(t *testing.T) {
	w := &watch{}
	a, b := w.list(twoEvents()), w.list(changed(func(l *api.EditList) { l.Events[0].Reel = "c" }))
	events := func(l api.EditList, e api.Errno) []api.Event {
		checkError(t, e, api.OK, "edit")
		return l.Events
	}
	checkOwn(t, w, "Slip", func() []api.Event { return events(conform.Slip(a, 0, 2)) }, scribble)
	checkOwn(t, w, "Slip by nothing", func() []api.Event { return events(conform.Slip(a, 0, 0)) }, scribble)
	checkOwn(t, w, "Trim", func() []api.Event { return events(conform.Trim(a, 0, 2)) }, scribble)
	checkOwn(t, w, "Trim by nothing", func() []api.Event { return events(conform.Trim(a, 1, 0)) }, scribble)
	checkOwn(t, w, "Sources", func() []api.Pull { l, _ := conform.Sources(a, 1); return l }, scribble)
	checkOwn(t, w, "Compare", func() []api.Range { l, _ := conform.Compare(a, b); return l }, scribble)
	text, _ := conform.PrintList(a)
	checkOwn(t, w, "ParseList", func() []api.Event { l, _, e := conform.ParseList(text); return events(l, e) }, scribble)
	_, e := conform.At(a, 15)
	checkError(t, e, api.OK, "At")
	w.check(t, "At and PrintList")
}

func TestP217MemoryIsNotShared(t *testing.T) {
	w := &watch{}
	a, b, c := w.look(curved("a", "b", "c")), w.look(curved("b", "c", "d")), w.look(api.Look{Rows: []api.LookRow{row("a", someGrades()[5]...), row("b", someGrades()[5]...)}})
	rows := func(k api.Look, e api.Errno) []api.LookRow {
		checkError(t, e, api.OK, "look")
		return k.Rows
	}
	diff := func(a, b api.Look) []api.Change {
		l, e := conform.Diff(a, b)
		checkError(t, e, api.OK, "Diff")
		return l
	}
	checkOwn(t, w, "Diff", func() []api.Change { return diff(a, b) }, scribbleChanges)
	checkOwn(t, w, "Diff", func() []api.Change { return diff(a, c) }, scribbleChanges)
	l := w.changes(diff(a, c))
	checkOwn(t, w, "Apply", func() []api.LookRow { return rows(conform.Apply(a, l)) }, scribbleRows)
	checkOwn(t, w, "Apply of nothing", func() []api.LookRow { return rows(conform.Apply(a, nil)) }, scribbleRows)
	checkOwn(t, w, "Undo", func() []api.Change { return conform.Undo(l) }, scribbleChanges)
	checkOwn(t, w, "Merge", func() []api.LookRow { k, _, e := conform.Merge(a, b, c); return rows(k, e) }, scribbleRows)
	checkOwn(t, w, "Merge of one look", func() []api.LookRow { k, _, e := conform.Merge(a, a, a); return rows(k, e) }, scribbleRows)
	checkOwn(t, w, "conflicts", func() []string { _, l, _ := conform.Merge(a, b, c); return l }, scribble)
	checkError(t, conform.CheckLook(a), api.OK, "CheckLook")
	w.check(t, "CheckLook")
	// Also where one list of grades is handed in several times.
	g := someGrades()[7]
	same := api.Look{Rows: []api.LookRow{{Shot: "a", Grades: g}, {Shot: "b", Grades: g}}}
	checkOwn(t, w, "Apply to rows of one list", func() []api.LookRow {
		return rows(conform.Apply(same, []api.Change{{Shot: "c", Is: true, New: g}, {Shot: "d", Is: true, New: g}}))
	}, scribbleRows)
	checkOwn(t, w, "Undo of one list", func() []api.Change {
		return conform.Undo([]api.Change{{Shot: "a", Old: g, New: g}, {Shot: "b", Old: g, New: g}})
	}, scribbleChanges)
}

// The list that is left out of a change is another one than that which is put in.
func TestP217OldAndNewShareNoMemory(t *testing.T) {
	g := someGrades()[7]
	c := conform.Undo([]api.Change{{Shot: "a", Old: g, New: g}})[0]
	scribbleGrades(c.Old)
	if textOf(c.New) != textOf(g) {
		t.Error("Undo", c)
	}
}

func TestP217UndoMakesNaNsClean(t *testing.T) {
	odd := single(0xff800001)
	three := [3]float32{odd, odd, odd}
	g := api.Grade{Wheels: api.Wheels{Lift: three, Gamma: three, Gain: three}, CDL: api.CDL{Slope: three, Offset: three, Power: three, Saturation: odd}, Pivot: odd, Amount: odd}
	for i := range g.Mixer.Rows {
		g.Mixer.Rows[i] = odd
	}
	for i := range g.Curves {
		g.Curves[i] = api.Curve{Kind: 9, X: []float32{odd, minusZero()}, Y: []float32{odd, 1, odd}}
	}
	c := conform.Undo([]api.Change{{Old: []api.Grade{g}, New: []api.Grade{{}, g}}})[0]
	for i, g := range []api.Grade{c.Old[1], c.New[0]} {
		l := slices.Concat(g.Wheels.Lift[:], g.Wheels.Gamma[:], g.Wheels.Gain[:], g.CDL.Slope[:], g.CDL.Offset[:], g.CDL.Power[:], []float32{g.CDL.Saturation, g.Pivot, g.Amount}, g.Mixer.Rows[:])
		for _, k := range g.Curves {
			l = append(l, k.X[0], k.Y[0], k.Y[2])
			if k.Kind != 9 || !sameBits(k.X[1], minusZero()) || k.Y[1] != 1 {
				t.Error("Undo", k)
			}
		}
		for j, v := range l {
			if !sameBits(v, single(0x7fc00000)) {
				t.Error("Undo", i, "single", j, "is", v)
			}
		}
	}
	if !sameBits(g.Pivot, odd) || !sameBits(g.Curves[0].X[0], odd) {
		t.Error("Undo changed its argument")
	}
}

func TestP219MemoryIsNotShared(t *testing.T) {
	w := &watch{}
	k := w.look(curved("a", "b"))
	b := conform.NewBook()
	_, e := b.Save(0, k, "")
	checkError(t, e, api.OK, "Save")
	w.check(t, "Save")
	// What was handed in is changed afterwards, and what came out.
	scribbleRows(k.Rows)
	_, e = b.Save(1, curved("b", "c"), "")
	checkError(t, e, api.OK, "Save")
	for _, book := range []*conform.Book{b, func() *conform.Book { c, _, _ := conform.ParseBook(b.Text()); return c }()} {
		w := &watch{}
		for n, want := range []api.Look{curved("a", "b"), curved("b", "c")} {
			checkOwn(t, w, "Look", func() []api.LookRow { k, _ := book.Look(n + 1); return k.Rows }, scribbleRows)
			got, e := book.Look(n + 1)
			isLook(t, got, e, want, n)
		}
		checkOwn(t, w, "Line", func() []int { l, _ := book.Line(2); return l }, scribble)
	}
	c := conform.NewBook()
	for i, k := range []api.Look{curved("a"), {Rows: []api.LookRow{row("a")}}, {}} {
		_, e := c.Save(min(i, 1), k, "")
		checkError(t, e, api.OK, i)
	}
	checkOwn(t, &watch{}, "Join", func() []string { _, l, _ := c.Join(2, 3, ""); return l }, scribble)
}

func TestP220MemoryIsNotShared(t *testing.T) {
	r := notesOf(t)
	checkOwn(t, &watch{}, "Notes", func() []api.Note { return r.Notes("", false) }, scribbleNotes)
	checkError(t, r.Open(1, "bob"), api.OK, "Open")
	for range 5 {
		l := r.Notes("b", true)
		checkError(t, r.Reply(1, "bob", "more"), api.OK, "Reply")
		scribbleNotes(l)
	}
	l := r.Notes("b", true)
	if len(l) != 1 || len(l[0].Replies) != 7 || l[0].Replies[6] != (api.Reply{Author: "bob", Text: "more"}) {
		t.Error("Notes", l)
	}
	// What was told before is not changed by what is done then.
	before := r.Notes("", false)
	was := r.Notes("", false)
	checkError(t, r.Reply(2, "bob", "more"), api.OK, "Reply")
	checkError(t, r.Close(2, "cid"), api.OK, "Close")
	areNotes(t, before, was)
}
