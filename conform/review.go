package conform

import (
	"slices"

	"dyehouse/api"
)

const maxReplies = 100 // to a note

// Review is described in doc/10-conform.md.
type Review struct {
	notes []api.Note
	// By shots: who approved them, if that still holds, and who closed the note about
	// them that was closed last, as far as that is known.
	approved, closed map[string]string
}

// NewReview is described in doc/10-conform.md.
func NewReview() *Review {
	return &Review{approved: map[string]string{}, closed: map[string]string{}}
}

// Add is described in doc/10-conform.md.
func (r *Review) Add(shot string, frame int, author, text string) (int, api.Errno) {
	switch {
	case !isName(shot) || !isName(author):
		return 0, api.ErrName
	case !isWithin(frame, 0, maxFrame):
		return 0, api.ErrRange
	case text == "" || !isText(text):
		return 0, api.ErrForm
	case len(r.notes) >= api.MaxNotes:
		return 0, api.ErrLarge
	}
	number := len(r.notes) + 1
	r.notes = append(r.notes, api.Note{Number: number, Shot: shot, Frame: frame, Author: author, Text: text, Open: true})
	delete(r.approved, shot)
	return number, api.OK
}

// note is the note with a number, or nil.
func (r *Review) note(number int) *api.Note {
	if !isWithin(number, 1, len(r.notes)) {
		return nil
	}
	return &r.notes[number-1]
}

// Reply is described in doc/10-conform.md.
func (r *Review) Reply(note int, author, text string) api.Errno {
	n := r.note(note)
	if n == nil {
		return api.ErrNone
	}
	return reply(n, author, text, n.Open)
}

// reply replies to a note, if it may have replies now.
func reply(n *api.Note, author, text string, now bool) api.Errno {
	switch {
	case !isName(author):
		return api.ErrName
	case text == "" || !isText(text):
		return api.ErrForm
	case !now:
		return api.ErrState
	case len(n.Replies) >= maxReplies:
		return api.ErrLarge
	}
	n.Replies = append(n.Replies, api.Reply{Author: author, Text: text})
	return api.OK
}

// Close is described in doc/10-conform.md.
func (r *Review) Close(note int, author string) api.Errno {
	n, e := r.turned(note, author, false)
	if e != api.OK {
		return e
	}
	if author == n.Author && !hasOther(n.Replies, author) {
		return api.ErrConflict
	}
	n.Open = false
	r.closed[n.Shot] = author
	return api.OK
}

// hasOther says whether there is a reply by somebody else.
func hasOther(l []api.Reply, author string) bool {
	return slices.ContainsFunc(l, func(v api.Reply) bool { return v.Author != author })
}

// Open is described in doc/10-conform.md.
func (r *Review) Open(note int, author string) api.Errno {
	n, e := r.turned(note, author, true)
	if e != api.OK {
		return e
	}
	n.Open = true
	delete(r.approved, n.Shot)
	return api.OK
}

// turned returns the note that an author wants open, or closed, which it is not yet.
func (r *Review) turned(note int, author string, open bool) (*api.Note, api.Errno) {
	n := r.note(note)
	switch {
	case n == nil:
		return nil, api.ErrNone
	case !isName(author):
		return nil, api.ErrName
	case n.Open == open:
		return nil, api.ErrState
	}
	return n, api.OK
}

// Approve is described in doc/10-conform.md.
func (r *Review) Approve(shot, author string) api.Errno {
	switch {
	case !isName(shot) || !isName(author):
		return api.ErrName
	case r.hasOpen(shot):
		return api.ErrState
	case r.closed[shot] == author:
		return api.ErrConflict
	}
	r.approved[shot] = author
	return api.OK
}

// hasOpen says whether a note about a shot is open.
func (r *Review) hasOpen(shot string) bool {
	return slices.ContainsFunc(r.notes, func(n api.Note) bool { return n.Open && n.Shot == shot })
}

// Approved is described in doc/10-conform.md.
func (r *Review) Approved(shot string) (string, bool) {
	author, is := r.approved[shot]
	return author, is
}

// Notes is described in doc/10-conform.md.
func (r *Review) Notes(shot string, open bool) []api.Note {
	var l []api.Note
	for _, n := range r.notes {
		if (shot == "" || n.Shot == shot) && (n.Open || !open) {
			n.Replies = slices.Clone(n.Replies)
			l = append(l, n)
		}
	}
	return l
}
