package conform

import (
	"maps"
	"slices"

	"dyehouse/api"
	"dyehouse/grade"
	"dyehouse/num"
)

// sheet is a list of grades with its text, by which lists are compared.
type sheet struct {
	grades []api.Grade
	text   string
}

// page has the sheets of the shots of a look.
type page map[string]sheet

// sheetOf returns the sheet of grades; the errors are those of grade.Print.
func sheetOf(l []api.Grade) (sheet, api.Errno) {
	text, e := grade.Print(l)
	if e != api.OK {
		return sheet{}, e
	}
	return sheet{grades: l, text: text}, api.OK
}

// pageOf returns the page of a look; the errors are those of CheckLook.
func pageOf(k api.Look) (page, api.Errno) {
	if len(k.Rows) > api.MaxShots {
		return nil, api.ErrLarge
	}
	p, before := page{}, ""
	for _, row := range k.Rows {
		if e := checkShot(row.Shot, before); e != api.OK {
			return nil, e
		}
		s, e := sheetOf(row.Grades)
		if e != api.OK {
			return nil, e
		}
		p[row.Shot], before = s, row.Shot
	}
	return p, api.OK
}

// checkShot is the error of the name of a shot behind another one; before the first
// one stands the empty string, which is less than all names.
func checkShot(shot, before string) api.Errno {
	switch {
	case !isName(shot):
		return api.ErrName
	case shot <= before:
		return api.ErrOrder
	}
	return api.OK
}

// pagesOf are the pages of looks, or the first error of one of them.
func pagesOf(l ...api.Look) ([]page, api.Errno) {
	var pages []page
	for _, k := range l {
		p, e := pageOf(k)
		if e != api.OK {
			return nil, e
		}
		pages = append(pages, p)
	}
	return pages, api.OK
}

// look returns the look of a page, with memory of its own.
func (p page) look() api.Look {
	var k api.Look
	for _, shot := range shotsOf(p) {
		k.Rows = append(k.Rows, api.LookRow{Shot: shot, Grades: copied(p[shot].grades)})
	}
	return k
}

// shotsOf are the shots of pages, in order, each one once.
func shotsOf(pages ...page) []string {
	var l []string
	for _, p := range pages {
		l = slices.AppendSeq(l, maps.Keys(p))
	}
	slices.Sort(l)
	return slices.Compact(l)
}

// areAlike says whether two pages have the same for a shot, or both nothing.
func areAlike(p, q page, shot string) bool {
	s, hasP := p[shot]
	t, hasQ := q[shot]
	return hasP == hasQ && s.text == t.text
}

// put makes a page have for a shot what another one has, or nothing, too.
func (p page) put(shot string, from page) {
	if s, has := from[shot]; has {
		p[shot] = s
	} else {
		delete(p, shot)
	}
}

// copied returns grades with memory of their own.
func copied(l []api.Grade) []api.Grade {
	l = slices.Clone(l)
	for i := range l {
		g := &l[i]
		for j, c := range g.Curves {
			g.Curves[j].X, g.Curves[j].Y = slices.Clone(c.X), slices.Clone(c.Y)
		}
		cleanGrade(g)
	}
	return l
}

// cleanGrade makes each NaN of a grade the NaN: Undo takes any grades.
func cleanGrade(g *api.Grade) {
	for _, c := range g.Curves {
		clean(c.X)
		clean(c.Y)
	}
	for _, l := range []*[3]float32{&g.Wheels.Lift, &g.Wheels.Gamma, &g.Wheels.Gain, &g.CDL.Slope, &g.CDL.Offset, &g.CDL.Power} {
		clean(l[:])
	}
	clean(g.Mixer.Rows[:])
	g.CDL.Saturation, g.Pivot, g.Amount = num.Clean(g.CDL.Saturation), num.Clean(g.Pivot), num.Clean(g.Amount)
}

func clean(l []float32) {
	for i, v := range l {
		l[i] = num.Clean(v)
	}
}

// CheckLook is described in doc/10-conform.md.
func CheckLook(k api.Look) api.Errno {
	_, e := pageOf(k)
	return e
}

// Diff is described in doc/10-conform.md.
func Diff(a, b api.Look) ([]api.Change, api.Errno) {
	pages, e := pagesOf(a, b)
	if e != api.OK {
		return nil, e
	}
	was, is := pages[0], pages[1]
	var l []api.Change
	for _, shot := range changed(was, is) {
		s, had := was[shot]
		t, has := is[shot]
		l = append(l, api.Change{Shot: shot, Was: had, Is: has, Old: copied(s.grades), New: copied(t.grades)})
	}
	return l, api.OK
}

// changed are the shots for which two pages have not the same, in order.
func changed(p, q page) []string {
	return slices.DeleteFunc(shotsOf(p, q), func(shot string) bool { return areAlike(p, q, shot) })
}

// Apply is described in doc/10-conform.md.
func Apply(k api.Look, l []api.Change) (api.Look, api.Errno) {
	p, e := pageOf(k)
	if e != api.OK {
		return api.Look{}, e
	}
	before := ""
	for _, c := range l {
		if e := p.change(c, before); e != api.OK {
			return api.Look{}, e
		}
		before = c.Shot
	}
	if len(p) > api.MaxShots {
		return api.Look{}, api.ErrLarge
	}
	return p.look(), api.OK
}

// change makes a change, behind one of another shot.
func (p page) change(c api.Change, before string) api.Errno {
	if e := checkShot(c.Shot, before); e != api.OK {
		return e
	}
	if !c.Was && !c.Is || !c.Was && len(c.Old) > 0 || !c.Is && len(c.New) > 0 || !p.was(c) {
		return api.ErrConflict
	}
	s, e := sheetOf(c.New)
	switch {
	case e != api.OK:
		return e
	case c.Is:
		p[c.Shot] = s
	default:
		delete(p, c.Shot)
	}
	return api.OK
}

// was says whether a page has what was there before a change.
func (p page) was(c api.Change) bool {
	s, had := p[c.Shot]
	if !had || !c.Was {
		return had == c.Was
	}
	// Grades with an error are not those of a page.
	old, e := sheetOf(c.Old)
	return e == api.OK && old.text == s.text
}

// Undo is described in doc/10-conform.md.
func Undo(l []api.Change) []api.Change {
	var undone []api.Change
	for _, c := range l {
		undone = append(undone, api.Change{Shot: c.Shot, Was: c.Is, Is: c.Was, Old: copied(c.New), New: copied(c.Old)})
	}
	return undone
}

// Merge is described in doc/10-conform.md.
func Merge(base, a, b api.Look) (api.Look, []string, api.Errno) {
	pages, e := pagesOf(base, a, b)
	if e != api.OK {
		return api.Look{}, nil, e
	}
	p, conflicts, e := merged(pages[0], pages[1], pages[2])
	if e != api.OK {
		return api.Look{}, nil, e
	}
	return p.look(), conflicts, api.OK
}

// merged is Merge of pages.
func merged(base, a, b page) (page, []string, api.Errno) {
	p := maps.Clone(a)
	var conflicts []string
	for _, shot := range changed(base, b) {
		switch {
		case areAlike(base, a, shot):
			p.put(shot, b)
		case !areAlike(a, b, shot):
			conflicts = append(conflicts, shot)
		}
	}
	if len(p) > api.MaxShots {
		return nil, nil, api.ErrLarge
	}
	return p, conflicts, api.OK
}
