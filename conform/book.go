package conform

import (
	"slices"

	"dyehouse/api"
)

// Book is described in doc/10-conform.md.
type Book struct {
	versions []version
	// Each sheet is kept once, by its text, however many versions have it: many
	// versions of a long look are often alike.
	sheets map[string]sheet
}

// version is a version of a book; the one with the number N stands at N - 1.
type version struct {
	parent int
	note   string
	page   page
}

// NewBook is described in doc/10-conform.md.
func NewBook() *Book { return &Book{sheets: map[string]sheet{}} }

// has says whether there is such a version.
func (b *Book) has(version int) bool { return isWithin(version, 1, len(b.versions)) }

// page is that of a version, or an empty one for 0.
func (b *Book) page(version int) page {
	if version == 0 {
		return page{}
	}
	return b.versions[version-1].page
}

// Save is described in doc/10-conform.md.
func (b *Book) Save(parent int, k api.Look, note string) (int, api.Errno) {
	switch {
	case b.isFull():
		return 0, api.ErrLarge
	case parent != 0 && !b.has(parent):
		return 0, api.ErrNone
	}
	p, e := pageOf(k)
	switch {
	case e != api.OK:
		return 0, e
	case !isText(note):
		return 0, api.ErrForm
	}
	return b.add(parent, p, note), api.OK
}

func (b *Book) isFull() bool { return len(b.versions) >= api.MaxVersions }

// add adds a version without errors, and returns its number.
func (b *Book) add(parent int, p page, note string) int {
	own := page{}
	for _, shot := range shotsOf(p) {
		own[shot] = b.keep(p[shot])
	}
	b.versions = append(b.versions, version{parent: parent, note: note, page: own})
	return len(b.versions)
}

// keep returns the sheet of the book that is the same.
func (b *Book) keep(s sheet) sheet {
	if kept, found := b.sheets[s.text]; found {
		return kept
	}
	s.grades = copied(s.grades)
	b.sheets[s.text] = s
	return s
}

// Look is described in doc/10-conform.md.
func (b *Book) Look(version int) (api.Look, api.Errno) {
	if !b.has(version) {
		return api.Look{}, api.ErrNone
	}
	return b.page(version).look(), api.OK
}

// Line is described in doc/10-conform.md.
func (b *Book) Line(version int) ([]int, api.Errno) {
	if !b.has(version) {
		return nil, api.ErrNone
	}
	var l []int
	for version != 0 {
		l = append(l, version)
		version = b.versions[version-1].parent
	}
	return l, api.OK
}

// Fork is described in doc/10-conform.md.
func (b *Book) Fork(v, w int) (int, api.Errno) {
	mine, e := b.Line(v)
	if e != api.OK {
		return 0, e
	}
	other, e := b.Line(w)
	if e != api.OK {
		return 0, e
	}
	for _, n := range mine {
		if slices.Contains(other, n) {
			return n, api.OK
		}
	}
	return 0, api.OK
}

// Join is described in doc/10-conform.md.
func (b *Book) Join(v, w int, note string) (int, []string, api.Errno) {
	base, e := b.Fork(v, w)
	if e != api.OK {
		return 0, nil, e
	}
	p, conflicts, e := merged(b.page(base), b.page(v), b.page(w))
	switch {
	case e != api.OK:
		return 0, nil, e
	case b.isFull():
		return 0, nil, api.ErrLarge
	case !isText(note):
		return 0, nil, api.ErrForm
	}
	return b.add(v, p, note), conflicts, api.OK
}
