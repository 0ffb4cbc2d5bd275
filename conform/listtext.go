package conform

import (
	"slices"
	"strconv"
	"strings"

	"dyehouse/api"
)

// The words that lines of lists begin with, and the digits of numbers in events.
const (
	titleWord   = "TITLE:"
	rateWord    = "RATE:"
	eventDigits = 3
)

// What stands in the line of an event: words, of which so many are no codes.
const (
	eventWords = 8
	plainWords = 4
)

// kindWords are the words of events, by their kinds.
func kindWords() []string {
	return []string{api.EventCut: "C", api.EventDissolve: "D"}
}

// PrintList is described in doc/10-conform.md.
func PrintList(l api.EditList) (string, api.Errno) {
	if e := CheckList(l); e != api.OK {
		return "", e
	}
	var text strings.Builder
	writeLine(&text, titleWord, l.Title)
	writeLine(&text, rateWord, strconv.Itoa(l.Rate))
	for i, v := range l.Events {
		words := []string{padded(i+1, eventDigits), v.Reel, kindWords()[v.Kind], padded(v.Length, eventDigits)}
		for _, n := range []int{v.In, v.Out, v.At, endOf(v)} {
			code, e := printPlace(l.Rate, n)
			if e != api.OK {
				return "", e
			}
			words = append(words, code)
		}
		writeLine(&text, words...)
	}
	return text.String(), api.OK
}

// printPlace writes the code with n before it, which is to be of the same day.
func printPlace(rate, n int) (string, api.Errno) {
	if n >= ofDay(rate) {
		return "", api.ErrRange
	}
	// PrintCode has the errors that CodeOf has, too.
	c, _ := CodeOf(rate, n)
	return PrintCode(rate, c)
}

// ParseList is described in doc/10-conform.md.
func ParseList(text string) (api.EditList, int, api.Errno) {
	if len(text) > api.MaxText {
		return api.EditList{}, 0, api.ErrLarge
	}
	r, lines := listReader{}, linesOf(text)
	for i, line := range lines {
		words := strings.FieldsFunc(line, isBlank)
		if len(words) == 0 {
			continue
		}
		if e := r.read(words); e != api.OK {
			return api.EditList{}, i, e
		}
	}
	if !r.hasRate {
		return api.EditList{}, len(lines), api.ErrSyntax
	}
	if e := CheckList(r.list); e != api.OK {
		return api.EditList{}, 0, e
	}
	return r.list, 0, api.OK
}

func isBlank(r rune) bool { return r == ' ' || r == '\t' }

// listReader is an edit list of which some lines have been read.
type listReader struct {
	list              api.EditList
	hasTitle, hasRate bool
}

// read reads the words of the next line.
func (r *listReader) read(words []string) api.Errno {
	switch {
	case !r.hasTitle:
		if len(words) != 2 || words[0] != titleWord {
			return api.ErrSyntax
		}
		r.list.Title, r.hasTitle = words[1], true
	case !r.hasRate:
		if len(words) != 2 || words[0] != rateWord {
			return api.ErrSyntax
		}
		rate, good := readInt(words[1])
		if !good {
			return api.ErrSyntax
		}
		r.list.Rate, r.hasRate = rate, true
	default:
		return r.readEvent(words)
	}
	return api.OK
}

// readEvent reads the words of an event.
func (r *listReader) readEvent(words []string) api.Errno {
	if len(words) != eventWords || words[0] != padded(len(r.list.Events)+1, eventDigits) {
		return api.ErrSyntax
	}
	length, good := readDigits(words[3], eventDigits)
	v := api.Event{Reel: words[1], Kind: slices.Index(kindWords(), words[2]), Length: length}
	if !good || v.Kind < 0 {
		return api.ErrSyntax
	}
	var end int
	for i, place := range []*int{&v.In, &v.Out, &v.At, &end} {
		c, e := ParseCode(r.list.Rate, words[plainWords+i])
		if e != api.OK {
			return e
		}
		// What ParseCode returns has no error.
		*place, _ = Frames(r.list.Rate, c)
	}
	if end != endOf(v) {
		return api.ErrConflict
	}
	r.list.Events = append(r.list.Events, v)
	return api.OK
}
