package conform_test

import (
	"math"
	"slices"
	"testing"

	"dyehouse/api"
	"dyehouse/conform"
)

// added returns a review with a note about each of these shots, all by ann.
func added(t *testing.T, shots ...string) *conform.Review {
	t.Helper()
	r := conform.NewReview()
	for i, shot := range shots {
		n, e := r.Add(shot, 10*i, "ann", "text "+shot)
		is(t, n, e, i+1, "Add", shot)
	}
	return r
}

// isReview tells of a review that has not this text.
func isReview(t *testing.T, r *conform.Review, want string, what ...any) {
	t.Helper()
	if text := r.Text(); text != want {
		t.Errorf("%s: text %.2000q, want %.2000q", about(what), text, want)
	}
}

// isApproved tells of a shot that has not been approved by an author, or by nobody.
func isApproved(t *testing.T, r *conform.Review, shot, want string) {
	t.Helper()
	author, is := r.Approved(shot)
	if author != want || is != (want != "") {
		t.Errorf("Approved %q: got %q, %v, want %q", shot, author, is, want)
	}
}

// sameNote says whether two notes are the same.
func sameNote(a, b api.Note) bool {
	return a.Number == b.Number && a.Shot == b.Shot && a.Frame == b.Frame && a.Author == b.Author && a.Text == b.Text && a.Open == b.Open && slices.Equal(a.Replies, b.Replies)
}

// areNotes tells of notes that are not want.
func areNotes(t *testing.T, got, want []api.Note, what ...any) {
	t.Helper()
	if !slices.EqualFunc(got, want, sameNote) {
		t.Errorf("%s: got %v, want %v", about(what), got, want)
	}
}

func TestP220OrderOfErrorsOfAdd(t *testing.T) {
	type note struct {
		shot         string
		frame        int
		author, text string
	}
	spoilers := []spoiler[note]{
		{api.ErrName, func(v *note) { v.shot = "a b" }},
		{api.ErrName, func(v *note) { v.author = "" }},
		{api.ErrRange, func(v *note) { v.frame = -1 }},
		{api.ErrForm, func(v *note) { v.text = "" }},
	}
	r := conform.NewReview()
	many := 0
	add := func(v note) api.Errno {
		n, e := r.Add(v.shot, v.frame, v.author, v.text)
		if e != api.OK {
			refused(t, n, e, e, v)
			return e
		}
		many++
		is(t, n, e, many, v)
		return e
	}
	good := func() note { return note{"a", 5, "ann", "x"} }
	checkSpoilers(t, good, spoilers, add)
	for _, name := range goodNames() {
		checkError(t, add(note{name, far, "ann", "x"}), api.OK, name)
		checkError(t, add(note{"a", 0, name, "x"}), api.OK, name)
	}
	for _, name := range badNames() {
		checkError(t, add(note{name, 5, "ann", "x"}), api.ErrName, name)
		checkError(t, add(note{"a", 5, name, "x"}), api.ErrName, name)
	}
	for _, frame := range append(badInts(), far+1) {
		checkError(t, add(note{"a", frame, "ann", "x"}), api.ErrRange, frame)
	}
	for _, text := range goodTexts() {
		checkError(t, add(note{"a", 5, "ann", text}), api.OK, text)
	}
	for _, text := range append(badTexts(), "") {
		checkError(t, add(note{"a", 5, "ann", text}), api.ErrForm, text)
	}
	for many < api.MaxNotes {
		checkError(t, add(good()), api.OK, many)
	}
	checkError(t, add(good()), api.ErrLarge, "full")
	for i, s := range spoilers {
		v := good()
		s.spoil(&v)
		checkError(t, add(v), s.error, "full", i)
	}
	if l := r.Notes("", false); len(l) != api.MaxNotes {
		t.Error(len(l), "notes")
	}
}

func TestP220Replies(t *testing.T) {
	r := added(t, "a", "b")
	for _, n := range append(badInts(), 0, 3) {
		checkError(t, r.Reply(n, "", ""), api.ErrNone, n)
		checkError(t, r.Close(n, ""), api.ErrNone, n)
		checkError(t, r.Open(n, ""), api.ErrNone, n)
	}
	for _, name := range badNames() {
		checkError(t, r.Reply(1, name, ""), api.ErrName, name)
	}
	for _, text := range append(badTexts(), "") {
		checkError(t, r.Reply(1, "bob", text), api.ErrForm, text)
	}
	checkError(t, r.Reply(2, "bob", "x"), api.OK, "Reply")
	checkError(t, r.Close(2, "bob"), api.OK, "Close")
	checkError(t, r.Reply(2, "a b", ""), api.ErrName, "closed")
	checkError(t, r.Reply(2, "bob", ""), api.ErrForm, "closed")
	checkError(t, r.Reply(2, "bob", "x"), api.ErrState, "closed")
	want := []api.Note{{Number: 1, Shot: "a", Author: "ann", Text: "text a", Open: true}, {Number: 2, Shot: "b", Frame: 10, Author: "ann", Text: "text b", Replies: []api.Reply{{Author: "bob", Text: "x"}}}}
	areNotes(t, r.Notes("", false), want)
	for i := range 100 {
		author, text := goodNames()[i%len(goodNames())], goodTexts()[i%len(goodTexts())]
		checkError(t, r.Reply(1, author, text), api.OK, i)
		want[0].Replies = append(want[0].Replies, api.Reply{Author: author, Text: text})
	}
	checkError(t, r.Reply(1, "bob", "x"), api.ErrLarge, "101 replies")
	checkError(t, r.Reply(1, "bob", "\n"), api.ErrForm, "101 replies")
	checkError(t, r.Close(1, "bob"), api.OK, "Close")
	checkError(t, r.Reply(1, "bob", "x"), api.ErrState, "101 replies, closed")
	want[0].Open = false
	areNotes(t, r.Notes("", false), want)
}

func TestP220CloseAndOpen(t *testing.T) {
	r := added(t, "a", "a")
	for _, name := range badNames() {
		checkError(t, r.Close(1, name), api.ErrName, name)
		checkError(t, r.Open(1, name), api.ErrName, name)
	}
	checkError(t, r.Open(1, "bob"), api.ErrState, "open")
	checkError(t, r.Open(1, "ann"), api.ErrState, "open")
	// Its author closes it only behind a reply of somebody else.
	checkError(t, r.Close(1, "ann"), api.ErrConflict, "no replies")
	checkError(t, r.Reply(1, "ann", "x"), api.OK, "Reply")
	checkError(t, r.Reply(2, "bob", "x"), api.OK, "Reply")
	checkError(t, r.Close(1, "ann"), api.ErrConflict, "a reply of her own")
	checkError(t, r.Reply(1, "Ann", "x"), api.OK, "Reply")
	checkError(t, r.Close(1, "ann"), api.OK, "a reply of somebody else")
	checkError(t, r.Close(1, "ann"), api.ErrState, "closed")
	checkError(t, r.Close(1, "!"), api.ErrName, "closed")
	checkError(t, r.Open(1, "ann"), api.OK, "closed")
	checkError(t, r.Reply(1, "ann", "x"), api.OK, "Reply")
	checkError(t, r.Close(1, "ann"), api.OK, "a reply of somebody else, and one behind")
	checkError(t, r.Open(1, "bob"), api.OK, "by anybody")
	checkError(t, r.Close(1, "bob"), api.OK, "by anybody")
	// Others close it without replies.
	r = added(t, "a")
	checkError(t, r.Close(1, "bob"), api.OK, "no replies")
	checkError(t, r.Close(1, "ann"), api.ErrState, "no replies, closed")
}

func TestP220Approvals(t *testing.T) {
	r := added(t, "a", "a", "b")
	for _, name := range badNames() {
		checkError(t, r.Approve(name, "ann"), api.ErrName, name)
		checkError(t, r.Approve("a", name), api.ErrName, name)
		isApproved(t, r, name, "")
	}
	checkError(t, r.Approve("a", "ann"), api.ErrState, "two are open")
	checkError(t, r.Close(2, "bob"), api.OK, "Close")
	checkError(t, r.Approve("a", "bob"), api.ErrState, "one is open")
	checkError(t, r.Close(1, "cid"), api.OK, "Close")
	isApproved(t, r, "a", "")
	// Who closed the one that was closed last, not that with the greatest number.
	checkError(t, r.Approve("a", "cid"), api.ErrConflict, "who closed it")
	checkError(t, r.Approve("a", "bob"), api.OK, "who closed the other one")
	isApproved(t, r, "a", "bob")
	checkError(t, r.Approve("a", "cid"), api.ErrConflict, "approved already")
	isApproved(t, r, "a", "bob")
	checkError(t, r.Approve("a", "ann"), api.OK, "approved already")
	isApproved(t, r, "a", "ann")
	// It needs no notes, and those of other shots do not matter.
	checkError(t, r.Approve("none", "cid"), api.OK, "no notes")
	isApproved(t, r, "none", "cid")
	isApproved(t, r, "b", "")
	checkError(t, r.Approve("b", "bob"), api.ErrState, "open")
	// A note that is opened again.
	checkError(t, r.Open(2, "dan"), api.OK, "Open")
	isApproved(t, r, "a", "")
	isApproved(t, r, "none", "cid")
	checkError(t, r.Close(2, "bob"), api.OK, "Close")
	isApproved(t, r, "a", "")
	checkError(t, r.Approve("a", "bob"), api.ErrConflict, "who closed it")
	checkError(t, r.Approve("a", "cid"), api.OK, "who closed the other one")
	// A new one.
	_, e := r.Add("a", 0, "ann", "x")
	checkError(t, e, api.OK, "Add")
	isApproved(t, r, "a", "")
	checkError(t, r.Approve("a", "ann"), api.ErrState, "open")
	// What fails takes nothing away.
	for _, text := range []string{"", "\n"} {
		_, e := r.Add("none", 0, "ann", text)
		checkError(t, e, api.ErrForm, "Add")
	}
	isApproved(t, r, "none", "cid")
	// What does not name the shot takes nothing away, either.
	checkError(t, r.Reply(3, "none", "none"), api.OK, "Reply")
	isApproved(t, r, "none", "cid")
	isApproved(t, conform.NewReview(), "a", "")
}

func TestP220NotesOfShots(t *testing.T) {
	r := added(t, "a", "b", "a", "c", "b")
	checkError(t, r.Close(3, "bob"), api.OK, "Close")
	checkError(t, r.Close(4, "bob"), api.OK, "Close")
	for _, v := range []struct {
		shot string
		open bool
		want []int
	}{
		{"", false, []int{1, 2, 3, 4, 5}}, {"", true, []int{1, 2, 5}}, {"a", false, []int{1, 3}}, {"a", true, []int{1}}, {"b", false, []int{2, 5}}, {"b", true, []int{2, 5}},
		{"c", false, []int{4}}, {"c", true, nil}, {"d", false, nil}, {"-", false, nil}, {"\n", false, nil}, {"A", true, nil},
	} {
		var got []int
		for _, n := range r.Notes(v.shot, v.open) {
			got = append(got, n.Number)
			if n.Frame != 10*(n.Number-1) || n.Text != "text "+n.Shot || n.Open != (n.Number != 3 && n.Number != 4) {
				t.Error("Notes", n)
			}
		}
		areList(t, got, api.OK, v.want, "Notes", v)
	}
	areNotes(t, conform.NewReview().Notes("", false), nil)
}

// act is a call that was made, and had no error.
type act struct {
	what               string
	shot, author, text string
	note, frame        int
}

// ledger is all that was done to a review, from which the rules are read directly.
type ledger []act

// notes are the acts that added notes.
func (l ledger) notes() []act {
	return slices.DeleteFunc(slices.Clone(l), func(a act) bool { return a.what != "add" })
}

// last is the last act of one of several kinds about a note.
func (l ledger) last(note int, kinds ...string) string {
	for _, a := range slices.Backward(l) {
		if a.note == note && slices.Contains(kinds, a.what) {
			return a.what
		}
	}
	return ""
}

func (l ledger) isOpen(note int) bool { return l.last(note, "close", "open") != "close" }

func (l ledger) replies(note int) []api.Reply {
	var replies []api.Reply
	for _, a := range l {
		if a.what == "reply" && a.note == note {
			replies = append(replies, api.Reply{Author: a.author, Text: a.text})
		}
	}
	return replies
}

// approved is who approved a shot, if that still holds.
func (l ledger) approved(shot string) string {
	for _, a := range slices.Backward(l) {
		switch {
		case a.shot != shot:
		case a.what == "approve":
			return a.author
		case a.what == "add" || a.what == "open":
			return ""
		}
	}
	return ""
}

// closer is who closed the note about a shot that was closed last.
func (l ledger) closer(shot string) string {
	for _, a := range slices.Backward(l) {
		if a.shot == shot && a.what == "close" {
			return a.author
		}
	}
	return ""
}

// error is that of an act, of which only the state can be wrong.
func (l ledger) error(a act) api.Errno {
	switch a.what {
	case "reply":
		if !l.isOpen(a.note) {
			return api.ErrState
		}
	case "open":
		if l.isOpen(a.note) {
			return api.ErrState
		}
	case "close":
		if !l.isOpen(a.note) {
			return api.ErrState
		}
		others := slices.DeleteFunc(l.replies(a.note), func(v api.Reply) bool { return v.Author == a.author })
		if l.notes()[a.note-1].author == a.author && len(others) == 0 {
			return api.ErrConflict
		}
	case "approve":
		for i, n := range l.notes() {
			if n.shot == a.shot && l.isOpen(i+1) {
				return api.ErrState
			}
		}
		if l.closer(a.shot) == a.author {
			return api.ErrConflict
		}
	}
	return api.OK
}

// act is a call of any kind, about notes that there are.
func (m *mixer) act(l ledger) act {
	notes := l.notes()
	a := act{what: one(m, "add", "reply", "close", "close", "open", "approve", "approve"), author: one(m, "ann", "bob", "cid"), text: one(m, goodTexts()...)}
	if len(notes) == 0 || a.what == "add" && len(notes) > 12 {
		a.what = one(m, "add", "approve")
	}
	a.shot, a.frame, a.note = one(m, "a", "b", "c"), m.below(100), len(notes)+1
	if a.what != "add" && a.what != "approve" {
		a.note = m.from(1, len(notes))
		a.shot = notes[a.note-1].shot
	}
	if a.what == "approve" {
		a.note = 0
	}
	return a
}

// do makes the call of an act.
func (a act) do(r *conform.Review) api.Errno {
	switch a.what {
	case "add":
		_, e := r.Add(a.shot, a.frame, a.author, a.text)
		return e
	case "reply":
		return r.Reply(a.note, a.author, a.text)
	case "close":
		return r.Close(a.note, a.author)
	case "open":
		return r.Open(a.note, a.author)
	}
	return r.Approve(a.shot, a.author)
}

// acts makes so many calls of any kind, and returns those that had no error behind
// those that were made before.
func (m *mixer) acts(r *conform.Review, l ledger, many int) ledger {
	for range many {
		if a := m.act(l); a.do(r) == api.OK {
			l = append(l, a)
		}
	}
	return l
}

// want are all notes.
func (l ledger) want() []api.Note {
	var notes []api.Note
	for i, a := range l.notes() {
		notes = append(notes, api.Note{Number: i + 1, Shot: a.shot, Frame: a.frame, Author: a.author, Text: a.text, Open: l.isOpen(i + 1), Replies: l.replies(i + 1)})
	}
	return notes
}

func TestP220AnyCalls(t *testing.T) {
	m := mixer{}
	met := map[api.Errno]int{}
	for range 200 {
		r := conform.NewReview()
		var l ledger
		for range 60 {
			a := m.act(l)
			want := l.error(a)
			checkError(t, a.do(r), want, a, l)
			met[want]++
			if want == api.OK {
				l = append(l, a)
			}
			for _, shot := range []string{"a", "b", "c"} {
				isApproved(t, r, shot, l.approved(shot))
			}
		}
		areNotes(t, r.Notes("", false), l.want(), l)
		if t.Failed() {
			t.FailNow()
		}
	}
	if met[api.ErrState] < 500 || met[api.ErrConflict] < 500 {
		t.Error("errors that were met:", met)
	}
}

func TestP220GreatNumbers(t *testing.T) {
	r := added(t, "a")
	for _, n := range []int{math.MaxInt, math.MinInt, 1<<32 + 1} {
		checkError(t, r.Reply(n, "bob", "x"), api.ErrNone, n)
		checkError(t, r.Close(n, "bob"), api.ErrNone, n)
		checkError(t, r.Open(n, "bob"), api.ErrNone, n)
	}
}
