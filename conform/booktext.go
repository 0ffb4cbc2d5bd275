package conform

import (
	"maps"
	"strconv"
	"strings"

	"dyehouse/api"
	"dyehouse/grade"
)

// The words that lines of books begin with.
const (
	versionWord = "version"
	noteWord    = "note"
	dropWord    = "drop"
	setWord     = "set"
)

// Text is described in doc/10-conform.md.
func (b *Book) Text() string {
	var text strings.Builder
	for i, v := range b.versions {
		shots := changed(b.page(v.parent), v.page)
		writeLine(&text, versionWord, strconv.Itoa(i+1), strconv.Itoa(v.parent), strconv.Itoa(len(shots)))
		writeLine(&text, noteWord, v.note)
		for _, shot := range shots {
			if s, has := v.page[shot]; has {
				writeLine(&text, setWord, shot, strconv.Itoa(len(s.grades)))
				text.WriteString(s.text)
			} else {
				writeLine(&text, dropWord, shot)
			}
		}
	}
	return text.String()
}

// ParseBook is described in doc/10-conform.md.
func ParseBook(text string) (*Book, int, api.Errno) {
	if len(text) > api.MaxText {
		return nil, 0, api.ErrLarge
	}
	r := bookReader{lines: linesOf(text), book: NewBook()}
	for r.at < len(r.lines) {
		if e := r.readVersion(); e != api.OK {
			return nil, r.at, e
		}
	}
	if r.book.Text() != text {
		return nil, len(r.lines), api.ErrSyntax
	}
	return r.book, 0, api.OK
}

// bookReader is a book of which the lines before one have been read.
type bookReader struct {
	lines []string
	at    int
	book  *Book
}

// line is the next line; one that is missing is empty, and so has not its form.
func (r *bookReader) line() string {
	if r.at == len(r.lines) {
		return ""
	}
	return r.lines[r.at]
}

// words are those of the next line.
func (r *bookReader) words() []string { return strings.Split(r.line(), " ") }

// readVersion reads the lines of a version. If they have an error, it is in the
// line that is the next one then.
func (r *bookReader) readVersion() api.Errno {
	parent, many, e := r.readHead()
	if e != api.OK {
		return e
	}
	r.at++
	note, good := strings.CutPrefix(r.line(), noteWord+" ")
	switch {
	case !good:
		return api.ErrSyntax
	case !isText(note):
		return api.ErrForm
	}
	r.at++
	p, e := r.readChanges(r.book.page(parent), many)
	if e != api.OK {
		return e
	}
	r.book.add(parent, p, note)
	return api.OK
}

// readHead reads the first line of a version: its parent, and how many changes there
// are.
func (r *bookReader) readHead() (int, int, api.Errno) {
	words := r.words()
	if len(words) != 4 || words[0] != versionWord || words[1] != strconv.Itoa(len(r.book.versions)+1) {
		return 0, 0, api.ErrSyntax
	}
	parent, goodParent := readInt(words[2])
	many, goodMany := readInt(words[3])
	switch {
	case !goodParent || !goodMany || many < 0:
		return 0, 0, api.ErrSyntax
	case parent != 0 && !r.book.has(parent):
		return 0, 0, api.ErrNone
	case r.book.isFull():
		return 0, 0, api.ErrLarge
	}
	return parent, many, api.OK
}

// readChanges reads so many changes of a page, and returns what they make of it.
func (r *bookReader) readChanges(parent page, many int) (page, api.Errno) {
	p := maps.Clone(parent)
	before, at := "", r.at
	for range many {
		at = r.at
		shot, e := r.readChange(p, before)
		if e != api.OK {
			return nil, e
		}
		before = shot
	}
	if len(p) > api.MaxShots {
		r.at = at
		return nil, api.ErrLarge
	}
	return p, api.OK
}

// readChange reads a change behind that of another shot, makes it, and returns its
// shot.
func (r *bookReader) readChange(p page, before string) (string, api.Errno) {
	words := r.words()
	if len(words) < 2 || checkShot(words[1], before) != api.OK {
		return "", api.ErrSyntax
	}
	shot := words[1]
	switch {
	case words[0] == setWord && len(words) == 3:
		return shot, r.readSet(p, shot, words[2])
	case words[0] != dropWord || len(words) != 2:
		return "", api.ErrSyntax
	}
	if _, has := p[shot]; !has {
		return "", api.ErrConflict
	}
	delete(p, shot)
	r.at++
	return shot, api.OK
}

// readSet reads the grades of a shot, which stand in as many lines as the word says.
func (r *bookReader) readSet(p page, shot, word string) api.Errno {
	many, good := readInt(word)
	if !good || many < 0 {
		return api.ErrSyntax
	}
	rest := r.lines[r.at+1:]
	if many > len(rest) {
		r.at = len(r.lines)
		return api.ErrSyntax
	}
	grades, _, e := grade.Parse(strings.Join(rest[:many], "\n"))
	if e == api.OK {
		p[shot], e = sheetOf(grades)
	}
	if e == api.OK {
		r.at += 1 + many
	}
	return e
}
