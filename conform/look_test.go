package conform_test

import (
	"slices"
	"testing"

	"dyehouse/api"
	"dyehouse/conform"
)

// twoRows is a look.
func twoRows() api.Look {
	return api.Look{Rows: []api.LookRow{row("a", someGrades()[3]...), row("b", someGrades()[5]...)}}
}

func TestP216OrderOfErrors(t *testing.T) {
	type k = api.Look
	var spoilers []spoiler[k]
	add := func(e api.Errno, spoil func(v *k)) { spoilers = append(spoilers, spoiler[k]{e, spoil}) }
	add(api.ErrLarge, func(v *k) {
		for len(v.Rows) <= api.MaxShots {
			v.Rows = append(v.Rows, api.LookRow{})
		}
	})
	for n := range 2 {
		add(api.ErrName, func(v *k) { v.Rows[n].Shot = "a b" })
		if n == 1 {
			add(api.ErrOrder, func(v *k) { v.Rows[n].Shot = "a" })
		}
		add(api.ErrLarge, func(v *k) { v.Rows[n].Grades = append(v.Rows[n].Grades, badGrades()[api.ErrLarge]...) })
		add(api.ErrKind, func(v *k) { v.Rows[n].Grades[0].Kind = 0 })
		add(api.ErrConflict, func(v *k) { v.Rows[n].Grades[0].Points[2] = 7 })
	}
	checkSpoilers(t, twoRows, spoilers, conform.CheckLook)
}

func TestP216Rows(t *testing.T) {
	for _, grades := range someGrades() {
		checkError(t, conform.CheckLook(api.Look{Rows: []api.LookRow{row("a", grades...), row("b"), row("c", grades...)}}), api.OK, grades)
	}
	for want, grades := range badGrades() {
		checkError(t, conform.CheckLook(api.Look{Rows: []api.LookRow{row("a"), row("b", grades...)}}), want, grades)
	}
	for _, name := range goodNames() {
		checkError(t, conform.CheckLook(api.Look{Rows: []api.LookRow{row(name)}}), api.OK, name)
	}
	for _, name := range badNames() {
		checkError(t, conform.CheckLook(api.Look{Rows: []api.LookRow{row(name)}}), api.ErrName, name)
	}
	l := shots()
	for i, a := range l {
		for j, b := range l {
			want := api.OK
			if i >= j {
				want = api.ErrOrder
			}
			checkError(t, conform.CheckLook(api.Look{Rows: []api.LookRow{row(a), row(b)}}), want, a, b)
		}
	}
	checkError(t, conform.CheckLook(api.Look{}), api.OK, "no rows")
	checkError(t, conform.CheckLook(manyShots("s", 500)), api.OK, "500 rows")
	checkError(t, conform.CheckLook(manyShots("s", 501)), api.ErrLarge, "501 rows")
}

// rowOf is the row that a look has for a shot, if there is one.
func rowOf(k api.Look, shot string) (api.LookRow, bool) {
	for _, r := range k.Rows {
		if r.Shot == shot {
			return r, true
		}
	}
	return api.LookRow{}, false
}

// sameRow says whether two looks have the same for a shot.
func sameRow(a, b api.Look, shot string) bool {
	r, hasA := rowOf(a, shot)
	s, hasB := rowOf(b, shot)
	return hasA == hasB && textOf(r.Grades) == textOf(s.Grades)
}

// changesOf is how b differs from a, for shots of these names.
func changesOf(a, b api.Look) []api.Change {
	var l []api.Change
	for _, shot := range shots() {
		if !sameRow(a, b, shot) {
			r, was := rowOf(a, shot)
			s, is := rowOf(b, shot)
			l = append(l, api.Change{Shot: shot, Was: was, Is: is, Old: r.Grades, New: s.Grades})
		}
	}
	return l
}

func TestP217DiffAndApply(t *testing.T) {
	m := mixer{}
	for range 500 {
		a, b := m.look(), m.look()
		l, e := conform.Diff(a, b)
		areChanges(t, l, e, changesOf(a, b), "Diff", a, b)
		k, e := conform.Apply(a, l)
		isLook(t, k, e, b, "Apply", a, b)
		k, e = conform.Apply(k, conform.Undo(l))
		isLook(t, k, e, a, "Undo", a, b)
	}
}

func TestP217KnownChanges(t *testing.T) {
	g, h := someGrades()[1], someGrades()[2]
	for i, v := range []struct {
		a, b api.Look
		want []api.Change
	}{
		{api.Look{}, api.Look{}, nil},
		{twoRows(), twoRows(), nil},
		{api.Look{Rows: []api.LookRow{row("a", g...)}}, api.Look{}, []api.Change{{Shot: "a", Was: true, Old: g}}},
		{api.Look{}, api.Look{Rows: []api.LookRow{row("a", g...)}}, []api.Change{{Shot: "a", Is: true, New: g}}},
		// A row without grades is a row.
		{api.Look{}, api.Look{Rows: []api.LookRow{row("a")}}, []api.Change{{Shot: "a", Is: true}}},
		{api.Look{Rows: []api.LookRow{row("a")}}, api.Look{}, []api.Change{{Shot: "a", Was: true}}},
		{api.Look{Rows: []api.LookRow{row("a")}}, api.Look{Rows: []api.LookRow{row("a", h...)}}, []api.Change{{Shot: "a", Was: true, Is: true, New: h}}},
		{api.Look{Rows: []api.LookRow{row("a", g...)}}, api.Look{Rows: []api.LookRow{row("A", g...), row("a", h...), row("b")}}, []api.Change{{Shot: "A", Is: true, New: g}, {Shot: "a", Was: true, Is: true, Old: g, New: h}, {Shot: "b", Is: true}}},
		// Grades in another order are others; so are zeros of other signs, which are
		// written in other ways, but not where they are not needed.
		{api.Look{Rows: []api.LookRow{row("a", g[0], h[0])}}, api.Look{Rows: []api.LookRow{row("a", h[0], g[0])}}, []api.Change{{Shot: "a", Was: true, Is: true, Old: []api.Grade{g[0], h[0]}, New: []api.Grade{h[0], g[0]}}}},
		{api.Look{Rows: []api.LookRow{row("a", api.Grade{Kind: 5})}}, api.Look{Rows: []api.LookRow{row("a", api.Grade{Kind: 5, Pivot: minusZero()})}}, []api.Change{{Shot: "a", Was: true, Is: true, Old: []api.Grade{{Kind: 5}}, New: []api.Grade{{Kind: 5, Pivot: minusZero()}}}}},
		{api.Look{Rows: []api.LookRow{row("a", h...)}}, api.Look{Rows: []api.LookRow{row("a", api.Grade{Kind: 6, Points: h[0].Points, Pivot: minusZero()})}}, nil},
	} {
		l, e := conform.Diff(v.a, v.b)
		areChanges(t, l, e, v.want, i)
		k, e := conform.Apply(v.a, v.want)
		isLook(t, k, e, v.b, i)
	}
}

func TestP217ErrorsOfDiff(t *testing.T) {
	name, order := api.Look{Rows: []api.LookRow{row("")}}, api.Look{Rows: []api.LookRow{row("a"), row("a")}}
	for _, v := range []struct {
		a, b api.Look
		want api.Errno
	}{{name, twoRows(), api.ErrName}, {twoRows(), name, api.ErrName}, {name, order, api.ErrName}, {order, name, api.ErrOrder}, {twoRows(), manyShots("x", 501), api.ErrLarge}} {
		l, e := conform.Diff(v.a, v.b)
		refusedList(t, l, e, v.want, v)
	}
	for want, grades := range badGrades() {
		l, e := conform.Diff(twoRows(), api.Look{Rows: []api.LookRow{row("a", grades...)}})
		refusedList(t, l, e, want, grades)
	}
}

// applied is a look and changes of it.
type applied struct {
	look    api.Look
	changes []api.Change
}

// goodChanges make one shot new, another one other, and leave one out.
func goodChanges() applied {
	k := api.Look{Rows: []api.LookRow{row("b", someGrades()[1]...), row("c", someGrades()[2]...), row("d")}}
	return applied{k, []api.Change{
		{Shot: "a", Is: true, New: slices.Clone(someGrades()[3])},
		{Shot: "b", Was: true, Is: true, Old: slices.Clone(someGrades()[1]), New: slices.Clone(someGrades()[4])},
		{Shot: "c", Was: true, Old: slices.Clone(someGrades()[2])},
	}}
}

func TestP217OrderOfErrorsOfApply(t *testing.T) {
	var spoilers []spoiler[applied]
	add := func(e api.Errno, spoil func(v *applied)) { spoilers = append(spoilers, spoiler[applied]{e, spoil}) }
	add(api.ErrOrder, func(v *applied) { v.look.Rows[2].Shot = "c" })
	for n := range 2 {
		add(api.ErrName, func(v *applied) { v.changes[n].Shot = "!" })
		if n == 1 {
			add(api.ErrOrder, func(v *applied) { v.changes[n].Shot = "Z" })
		}
		add(api.ErrConflict, func(v *applied) { v.changes[n].Was, v.changes[n].Is = !v.changes[n].Was, true })
		add(api.ErrKind, func(v *applied) { v.changes[n].New[0].Kind = 0 })
	}
	// The shot that is left out has no grades that could be wrong.
	add(api.ErrConflict, func(v *applied) { v.changes[2].New = someGrades()[1] })
	checkSpoilers(t, goodChanges, spoilers, func(v applied) api.Errno {
		k, e := conform.Apply(v.look, v.changes)
		if e != api.OK {
			refusedLook(t, k, e, e, v)
		}
		return e
	})
}

func TestP217Conflicts(t *testing.T) {
	g, h := someGrades()[1], someGrades()[2]
	k := api.Look{Rows: []api.LookRow{row("a", g...), row("b")}}
	for i, v := range []struct {
		change api.Change
		want   api.Errno
	}{
		{api.Change{Shot: "a", Was: true, Is: true, Old: g, New: h}, api.OK}, {api.Change{Shot: "a", Was: true, Is: true, Old: g, New: g}, api.OK}, {api.Change{Shot: "a", Was: true, Is: true, Old: g}, api.OK},
		{api.Change{Shot: "a", Was: true, Old: g}, api.OK}, {api.Change{Shot: "b", Was: true}, api.OK}, {api.Change{Shot: "b", Was: true, Is: true, New: g}, api.OK},
		{api.Change{Shot: "c", Is: true, New: g}, api.OK}, {api.Change{Shot: "c", Is: true}, api.OK},
		// Neither was there nor is.
		{api.Change{Shot: "a"}, api.ErrConflict}, {api.Change{Shot: "c"}, api.ErrConflict}, {api.Change{Shot: "b"}, api.ErrConflict}, {api.Change{Shot: "c", Old: g, New: h}, api.ErrConflict},
		// Grades of what was not, or is not, there.
		{api.Change{Shot: "c", Is: true, Old: g, New: g}, api.ErrConflict}, {api.Change{Shot: "a", Was: true, Old: g, New: g}, api.ErrConflict}, {api.Change{Shot: "a", Is: true, Old: g, New: g}, api.ErrConflict},
		// The look has it not, or has it, or has something else.
		{api.Change{Shot: "c", Was: true, Is: true, New: g}, api.ErrConflict}, {api.Change{Shot: "c", Was: true, Old: g}, api.ErrConflict}, {api.Change{Shot: "c", Was: true}, api.ErrConflict},
		{api.Change{Shot: "a", Is: true, New: g}, api.ErrConflict}, {api.Change{Shot: "b", Is: true}, api.ErrConflict},
		{api.Change{Shot: "a", Was: true, Is: true, Old: h, New: g}, api.ErrConflict}, {api.Change{Shot: "a", Was: true}, api.ErrConflict}, {api.Change{Shot: "b", Was: true, Old: g}, api.ErrConflict}, {api.Change{Shot: "a", Was: true, Old: append(g[:1:1], g...)}, api.ErrConflict},
	} {
		got, e := conform.Apply(k, []api.Change{v.change})
		if v.want != api.OK {
			refusedLook(t, got, e, v.want, i, v.change)
			continue
		}
		checkError(t, e, api.OK, i, v.change)
		r, has := rowOf(got, v.change.Shot)
		if has != v.change.Is || textOf(r.Grades) != textOf(v.change.New) {
			t.Error("Apply", i, v.change, got)
		}
	}
	for want, grades := range badGrades() {
		// What is wrong is not what the look had, also where it had a row without grades.
		for _, shot := range []string{"a", "b"} {
			got, e := conform.Apply(k, []api.Change{{Shot: shot, Was: true, Is: true, Old: grades, New: grades}})
			refusedLook(t, got, e, api.ErrConflict, "old grades", grades)
		}
		got, e := conform.Apply(k, []api.Change{{Shot: "a", Was: true, Is: true, Old: g, New: grades}})
		refusedLook(t, got, e, want, "new grades", grades)
		got, e = conform.Apply(k, []api.Change{{Shot: "c", Is: true, New: grades}})
		refusedLook(t, got, e, want, "new grades", grades)
		got, e = conform.Apply(api.Look{Rows: []api.LookRow{row("a", grades...)}}, nil)
		refusedLook(t, got, e, want, "grades of the look", grades)
	}
	for _, name := range badNames() {
		got, e := conform.Apply(k, []api.Change{{Shot: name, Is: true}})
		refusedLook(t, got, e, api.ErrName, name)
	}
}

func TestP217ManyShots(t *testing.T) {
	k := manyShots("s", 500)
	one := api.Change{Shot: "a", Is: true}
	got, e := conform.Apply(k, []api.Change{one})
	refusedLook(t, got, e, api.ErrLarge, "a shot more")
	// A shot more, and another one less: it is the result that counts.
	got, e = conform.Apply(k, []api.Change{one, {Shot: "s0007", Was: true}})
	checkError(t, e, api.OK, "another shot")
	if len(got.Rows) != 500 || got.Rows[0].Shot != "a" || got.Rows[8].Shot != "s0008" {
		t.Error("Apply", got)
	}
	// All other errors come first.
	got, e = conform.Apply(k, []api.Change{one, {Shot: "b", Was: true}})
	refusedLook(t, got, e, api.ErrConflict, "a conflict behind")
	l, e := conform.Diff(k, manyShots("t", 500))
	if e != api.OK || len(l) != 1000 {
		t.Error("Diff", len(l), e)
	}
	got, e = conform.Apply(k, l)
	isLook(t, got, e, manyShots("t", 500), "all others")
}

func TestP217UndoOfAnyChanges(t *testing.T) {
	odd := []api.Grade{{Kind: 99, Pivot: 3, Points: [3]int{-1, 99, 0}}}
	l := []api.Change{{Shot: "!", Old: odd}, {Shot: "b", Was: true, Is: true, Old: someGrades()[1], New: someGrades()[5]}, {Shot: "a", Is: true, New: odd}, {}, {Shot: "a", Was: true}}
	got := conform.Undo(l)
	if len(got) != len(l) {
		t.Fatal("Undo", got)
	}
	for i, c := range l {
		d := got[i]
		if d.Shot != c.Shot || d.Was != c.Is || d.Is != c.Was || len(d.Old) != len(c.New) || len(d.New) != len(c.Old) {
			t.Error("Undo", i, d)
		}
		for _, v := range [][2][]api.Grade{{c.Old, d.New}, {c.New, d.Old}} {
			for j, g := range v[0] {
				h := v[1][j]
				if g.Kind != h.Kind || g.Pivot != h.Pivot || g.Points != h.Points || !slices.Equal(g.Curves[1].Y, h.Curves[1].Y) || g.Curves[3].Kind != h.Curves[3].Kind {
					t.Error("Undo", i, g, h)
				}
			}
		}
	}
	if got := conform.Undo(nil); len(got) != 0 {
		t.Error("Undo", got)
	}
}

// mergedRows is what P218 says of shots of these names.
func mergedRows(base, a, b api.Look) (api.Look, []string) {
	var k api.Look
	var conflicts []string
	for _, shot := range shots() {
		r, has := rowOf(a, shot)
		changedA, changedB := !sameRow(base, a, shot), !sameRow(base, b, shot)
		if changedB && !changedA {
			r, has = rowOf(b, shot)
		}
		if changedA && changedB && !sameRow(a, b, shot) {
			conflicts = append(conflicts, shot)
		}
		if has {
			k.Rows = append(k.Rows, r)
		}
	}
	return k, conflicts
}

func TestP218MergesOfAnyLooks(t *testing.T) {
	m := mixer{}
	many := 0
	for range 1000 {
		base, a, b := m.look(), m.look(), m.look()
		want, conflicts := mergedRows(base, a, b)
		k, l, e := conform.Merge(base, a, b)
		isLook(t, k, e, want, "Merge", base, a, b)
		areList(t, l, e, conflicts, "conflicts", base, a, b)
		if len(l) > 1 {
			many++
		}
	}
	if many < 200 {
		t.Error("only", many, "merges have several conflicts")
	}
}

func TestP218KnownMerges(t *testing.T) {
	g, h, i := someGrades()[1], someGrades()[2], someGrades()[5]
	look := func(rows ...api.LookRow) api.Look { return api.Look{Rows: rows} }
	for n, v := range []struct {
		base, a, b, want api.Look
		conflicts        []string
	}{
		{look(), look(), look(), look(), nil},
		{look(row("a", g...)), look(row("a", h...)), look(row("a", g...)), look(row("a", h...)), nil},
		{look(row("a", g...)), look(row("a", g...)), look(row("a", h...)), look(row("a", h...)), nil},
		{look(row("a", g...)), look(row("a", h...)), look(row("a", h...)), look(row("a", h...)), nil},
		{look(row("a", g...)), look(row("a", h...)), look(row("a", i...)), look(row("a", h...)), []string{"a"}},
		{look(row("a", g...)), look(), look(row("a", g...)), look(), nil},
		{look(row("a", g...)), look(row("a", g...)), look(), look(), nil},
		{look(row("a", g...)), look(), look(), look(), nil},
		// What one leaves out and the other one changes.
		{look(row("a", g...)), look(), look(row("a", h...)), look(), []string{"a"}},
		{look(row("a", g...)), look(row("a", h...)), look(), look(row("a", h...)), []string{"a"}},
		// What is new on one side, or on both.
		{look(), look(row("a")), look(row("b", g...)), look(row("a"), row("b", g...)), nil},
		{look(), look(row("a", g...)), look(row("a", g...)), look(row("a", g...)), nil},
		{look(), look(row("a")), look(row("a", g...)), look(row("a")), []string{"a"}},
		{look(), look(row("b", g...), row("c", h...)), look(row("a", i...), row("b", h...), row("c", i...)), look(row("a", i...), row("b", g...), row("c", h...)), []string{"b", "c"}},
	} {
		k, l, e := conform.Merge(v.base, v.a, v.b)
		isLook(t, k, e, v.want, n)
		areList(t, l, e, v.conflicts, n)
	}
}

func TestP218Errors(t *testing.T) {
	name, order, grades := api.Look{Rows: []api.LookRow{row("a b")}}, api.Look{Rows: []api.LookRow{row("b"), row("a")}}, api.Look{Rows: []api.LookRow{row("a", badGrades()[api.ErrForm]...)}}
	good := twoRows()
	for _, v := range []struct {
		base, a, b api.Look
		want       api.Errno
	}{
		{name, order, grades, api.ErrName}, {good, order, grades, api.ErrOrder}, {good, good, grades, api.ErrForm}, {order, good, name, api.ErrOrder}, {good, grades, name, api.ErrForm},
		{good, good, manyShots("s", 501), api.ErrLarge}, {name, manyShots("s", 501), good, api.ErrName},
		{api.Look{}, manyShots("s", 500), api.Look{Rows: []api.LookRow{row("a")}}, api.ErrLarge}, {api.Look{}, manyShots("s", 250), manyShots("t", 251), api.ErrLarge},
		{manyShots("s", 1), manyShots("s", 500), manyShots("t", 2), api.ErrLarge},
	} {
		k, l, e := conform.Merge(v.base, v.a, v.b)
		refusedLook(t, k, e, v.want)
		refusedList(t, l, e, v.want)
	}
	k, l, e := conform.Merge(api.Look{}, manyShots("s", 250), manyShots("t", 250))
	if e != api.OK || len(k.Rows) != 500 || len(l) != 0 {
		t.Error("Merge", len(k.Rows), l, e)
	}
	k, _, e = conform.Merge(manyShots("s", 1), manyShots("s", 500), manyShots("t", 1))
	if e != api.OK || len(k.Rows) != 500 || k.Rows[499].Shot != "t0000" {
		t.Error("Merge", len(k.Rows), e)
	}
}
