package conform

import (
	"maps"
	"slices"
	"strconv"
	"strings"

	"dyehouse/api"
)

// The words of lines of reviews; notes begin with the noteWord, too.
const (
	openWord     = "open:"
	closedWord   = "closed:"
	replyWord    = "reply"
	approvedWord = "approved"
	colon        = ":"
)

// Text is described in doc/10-conform.md.
func (r *Review) Text() string {
	var text strings.Builder
	for _, n := range r.notes {
		state := closedWord
		if n.Open {
			state = openWord
		}
		writeLine(&text, noteWord, strconv.Itoa(n.Number), n.Shot, strconv.Itoa(n.Frame), n.Author, state, n.Text)
		for _, v := range n.Replies {
			writeLine(&text, replyWord, v.Author+colon, v.Text)
		}
	}
	for _, shot := range slices.Sorted(maps.Keys(r.approved)) {
		writeLine(&text, approvedWord, shot, r.approved[shot])
	}
	return text.String()
}

// ParseReview is described in doc/10-conform.md.
func ParseReview(text string) (*Review, int, api.Errno) {
	if len(text) > api.MaxText {
		return nil, 0, api.ErrLarge
	}
	r, lines := reviewReader{review: NewReview()}, linesOf(text)
	for i, line := range lines {
		if e := r.read(line); e != api.OK {
			return nil, i, e
		}
	}
	if r.review.Text() != text {
		return nil, len(lines), api.ErrSyntax
	}
	return r.review, 0, api.OK
}

// reviewReader is a review of which some lines have been read; the shot is that of
// the last approval.
type reviewReader struct {
	review *Review
	shot   string
}

// read reads the next line.
func (r *reviewReader) read(line string) api.Errno {
	// Texts may have spaces, so lines are parted only ahead of them.
	word, rest, _ := strings.Cut(line, " ")
	switch {
	case word == noteWord && r.shot == "":
		return r.readNote(strings.SplitN(rest, " ", 6))
	case word == replyWord && r.shot == "":
		return r.readReply(strings.SplitN(rest, " ", 2))
	case word == approvedWord:
		return r.readApproval(strings.Split(rest, " "))
	}
	return api.ErrSyntax
}

// readNote reads the words of a note and its text.
func (r *reviewReader) readNote(words []string) api.Errno {
	if len(words) != 6 || words[0] != strconv.Itoa(len(r.review.notes)+1) || words[4] != openWord && words[4] != closedWord {
		return api.ErrSyntax
	}
	frame, good := readInt(words[2])
	if !good || words[1] == "" || words[3] == "" {
		return api.ErrSyntax
	}
	number, e := r.review.Add(words[1], frame, words[3], words[5])
	if e != api.OK {
		return e
	}
	r.review.note(number).Open = words[4] == openWord
	return api.OK
}

// readReply reads the words of a reply to the last note, and its text.
func (r *reviewReader) readReply(words []string) api.Errno {
	author, good := strings.CutSuffix(words[0], colon)
	n := r.review.note(len(r.review.notes))
	if len(words) != 2 || !good || author == "" || n == nil {
		return api.ErrSyntax
	}
	return reply(n, author, words[1], true)
}

// readApproval reads the words of an approval.
func (r *reviewReader) readApproval(words []string) api.Errno {
	if len(words) != 2 || slices.Contains(words, "") {
		return api.ErrSyntax
	}
	shot := words[0]
	if e := r.review.Approve(shot, words[1]); e != api.OK {
		return e
	}
	if shot <= r.shot {
		return api.ErrOrder
	}
	r.shot = shot
	return api.OK
}
