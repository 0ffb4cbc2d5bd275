package conform_test

import (
	"fmt"
	"strings"
	"testing"

	"dyehouse/api"
	"dyehouse/conform"
)

// threeNotes are the lines of a review.
const threeNotes = "note 1 b 7 ann closed: too dark\nreply bob: lifted\nreply ann: thanks: fine\n" +
	"note 2 a 0 bob open:  x\n" +
	"note 3 b 16777216 ann closed: y\n" +
	"approved b ann\napproved c bob\n"

// notesOf adds threeNotes.
func notesOf(t *testing.T) *conform.Review {
	t.Helper()
	r := conform.NewReview()
	for i, a := range []act{
		{what: "add", shot: "b", frame: 7, author: "ann", text: "too dark"}, {what: "add", shot: "a", author: "bob", text: " x"}, {what: "add", shot: "b", frame: far, author: "ann", text: "y"},
		{what: "reply", note: 1, author: "bob", text: "lifted"}, {what: "reply", note: 1, author: "ann", text: "thanks: fine"}, {what: "close", note: 1, author: "ann"}, {what: "close", note: 3, author: "cid"},
		{what: "approve", shot: "c", author: "bob"}, {what: "approve", shot: "b", author: "ann"},
	} {
		checkError(t, a.do(r), api.OK, i)
	}
	return r
}

// refusedReview tells of a text that has not this error in this line.
func refusedReview(t *testing.T, text string, want api.Errno, line int) {
	t.Helper()
	r, at, e := conform.ParseReview(text)
	if r != nil || at != line || e != want {
		t.Errorf("ParseReview %.300q: error %d in line %d, want %d in %d", text, e, at, want, line)
	}
}

// checkReview returns a review that has this text.
func checkReview(t *testing.T, text string) *conform.Review {
	t.Helper()
	r, line, e := conform.ParseReview(text)
	if e != api.OK || line != 0 || r == nil {
		t.Errorf("ParseReview %.300q: error %d in line %d", text, e, line)
		return conform.NewReview()
	}
	isReview(t, r, text, "ParseReview")
	return r
}

func TestP220PlainText(t *testing.T) {
	r := notesOf(t)
	isReview(t, r, threeNotes)
	areNotes(t, checkReview(t, threeNotes).Notes("", false), r.Notes("", false))
	isReview(t, conform.NewReview(), "")
	areNotes(t, checkReview(t, "").Notes("", false), nil)
	checkReview(t, "approved a ann\n")
	for _, text := range goodTexts() {
		r := checkReview(t, "note 1 a 0 ann open: "+text+"\nreply bob: "+text+"\n")
		areNotes(t, r.Notes("", false), []api.Note{{Number: 1, Shot: "a", Author: "ann", Text: text, Open: true, Replies: []api.Reply{{Author: "bob", Text: text}}}})
	}
	for _, name := range goodNames() {
		r := checkReview(t, "note 1 "+name+" 0 "+name+" closed: x\nreply "+name+": y\napproved "+name+" "+name+"\n")
		areNotes(t, r.Notes("", false), []api.Note{{Number: 1, Shot: name, Author: name, Text: "x", Replies: []api.Reply{{Author: name, Text: "y"}}}})
		isApproved(t, r, name, name)
	}
}

func TestP220SyntaxOfTexts(t *testing.T) {
	lines := strings.SplitAfter(threeNotes, "\n")
	for at, l := range map[int][]string{
		0: {"\n", " \n", "x\n", "note\n", "note \n", "note 1\n", "note 1 b 7 ann\n", "note 1 b 7 ann closed\n", "note 1 b 7 ann closed:\n", "note 1 b 7 ann closed too dark\n", "note 1 b 7 ann Closed: x\n", "note 1 b 7 ann shut: x\n", "note 1 b 7 ann open : x\n", "note 1 b 7 ann  open: x\n",
			" note 1 b 7 ann closed: x\n", "note  1 b 7 ann closed: x\n", "note 1  b 7 ann closed: x\n", "note 1 b  7 ann closed: x\n", "note 1  7 ann closed: x\n", "note 1 b 7  closed: x\n", "Note 1 b 7 ann closed: x\n", "note\t1 b 7 ann closed: x\n",
			"note 0 b 7 ann closed: x\n", "note 2 b 7 ann closed: x\n", "note 01 b 7 ann closed: x\n", "note +1 b 7 ann closed: x\n", "note x b 7 ann closed: x\n", "note -1 b 7 ann closed: x\n",
			"note 1 b 07 ann closed: x\n", "note 1 b +7 ann closed: x\n", "note 1 b -0 ann closed: x\n", "note 1 b x ann closed: x\n", "note 1 b 7.0 ann closed: x\n", "note 1 b 99999999999999999999 ann closed: x\n", "note 1 b 7 ann bob closed: x\n", "note 1 b c 7 ann closed: x\n",
			"reply bob: lifted\n", "reply ann: \n", "version 1 0 0\n"},
		1: {"\n", "reply\n", "reply \n", "reply bob\n", "reply bob:\n", "reply bob lifted\n", "reply bob : lifted\n", "reply  bob: lifted\n", "reply : lifted\n", " reply bob: lifted\n", "Reply bob: lifted\n", "reply\tbob: x\n", "reply bob x: y\n", "note 1 b 7 ann open: x\n", "note 3 b 7 ann open: x\n"},
		3: {"note 1 a 0 bob open: x\n", "note 3 a 0 bob open: x\n"},
		6: {"\n", "approved\n", "approved \n", "approved c\n", "approved c \n", "approved c bob \n", "approved c bob x\n", "approved  c bob\n", "approved c  bob\n", " approved c bob\n", "Approved c bob\n", "approved\tc bob\n", "note 4 a 0 ann open: x\n", "reply ann: x\n", "note 4 a 0 ann closed: x\n"},
	} {
		for _, line := range l {
			spoiled := append([]string{}, lines...)
			spoiled[at] = line
			refusedReview(t, strings.Join(spoiled, ""), api.ErrSyntax, at)
			refusedReview(t, strings.Join(spoiled[:at+1], "")+"x\n", api.ErrSyntax, at)
		}
	}
	refusedReview(t, threeNotes+"\n", api.ErrSyntax, 7)
	refusedReview(t, "\n", api.ErrSyntax, 0)
	// The lines are right, but the last one does not end.
	for n := 1; n < len(lines); n++ {
		text := strings.Join(lines[:n], "")
		checkReview(t, text)
		refusedReview(t, strings.TrimSuffix(text, "\n"), api.ErrSyntax, n)
	}
}

func TestP220OtherErrorsOfTexts(t *testing.T) {
	note := "note 1 a 0 ann closed: x\n"
	for _, v := range []struct {
		text string
		want api.Errno
		line int
	}{
		{"note 1 a! -1 ann open: \n", api.ErrName, 0}, {"note 1 a -1 ann! open: \n", api.ErrName, 0}, {"note 1 a -1 ann open: \n", api.ErrRange, 0}, {"note 1 a 16777217 ann open: \x00\n", api.ErrRange, 0}, {"note 1 a 9223372036854775807 ann open: x\n", api.ErrRange, 0},
		{"note 1 a 0 ann open: \n", api.ErrForm, 0}, {"note 1 a 0 ann open: \t\n", api.ErrForm, 0}, {"note 1 a 0 ann open: x\r\n", api.ErrForm, 0}, {"note 1 a 0 ann open: " + longText() + "y\n", api.ErrForm, 0},
		{"note 1 a: 0 ann open: x\n", api.ErrName, 0}, {"note 1 a 0 ann: open: x\n", api.ErrName, 0}, {"note 1 a\x00 x ann open: x\n", api.ErrSyntax, 0},
		{note + "reply a!: \n", api.ErrName, 1}, {note + "reply b:c: x\n", api.ErrName, 1}, {note + "reply b:: x\n", api.ErrName, 1}, {note + "reply bob: \n", api.ErrForm, 1}, {note + "reply bob: x\ty\n", api.ErrForm, 1}, {note + "reply bob: " + longText() + "y\n", api.ErrForm, 1},
		{note + "note 2 a 0 ann! open: x\n", api.ErrName, 1}, {note + "reply bob: x\nnote 2 a -5 ann open: x\nx\n", api.ErrRange, 2},
		{note + "approved a! b\n", api.ErrName, 1}, {note + "approved a b!\n", api.ErrName, 1}, {note + "note 2 a 0 ann open: x\napproved a bob!\n", api.ErrName, 2},
		// The shot has an open note, then the order.
		{note + "note 2 a 0 ann open: x\napproved a bob\n", api.ErrState, 2}, {note + "note 2 a 0 ann open: x\napproved b bob\napproved a bob\n", api.ErrState, 3}, {note + "approved b bob\napproved a bob\n", api.ErrOrder, 2}, {note + "approved a bob\napproved a bob\n", api.ErrOrder, 2},
		{note + "approved b bob\napproved B bob\nx\n", api.ErrOrder, 2}, {"note 1 a 0 ann open: x\n" + strings.Replace(note, " 1 ", " 2 ", 1) + "approved a bob\n", api.ErrState, 2},
		{note + "approved b bob\nnote 2 a -1 ann! open: x\n", api.ErrSyntax, 2}, {note + "approved b bob\nreply !: \n", api.ErrSyntax, 2},
	} {
		refusedReview(t, v.text, v.want, v.line)
	}
	for _, text := range badTexts() {
		if !strings.Contains(text, "\n") {
			refusedReview(t, "note 1 a 0 ann open: "+text+"\n", api.ErrForm, 0)
			refusedReview(t, note+"reply ann: "+text+"\n", api.ErrForm, 1)
		}
	}
	for _, name := range badNames() {
		if strings.ContainsAny(name, "\n ") || name == "" {
			continue
		}
		refusedReview(t, "note 1 "+name+" 0 ann open: x\n", api.ErrName, 0)
		refusedReview(t, "note 1 a 0 "+name+" open: x\n", api.ErrName, 0)
		refusedReview(t, note+"reply "+name+": x\n", api.ErrName, 1)
		refusedReview(t, note+"approved "+name+" x\n", api.ErrName, 1)
		refusedReview(t, note+"approved x "+name+"\n", api.ErrName, 1)
	}
}

func TestP220ManyInATextOfAReview(t *testing.T) {
	text := ""
	for n := 1; n <= api.MaxNotes; n++ {
		text += fmt.Sprintf("note %d a 0 ann open: x\n", n)
	}
	checkReview(t, text)
	refusedReview(t, text+"note 2001 a 0 ann open: x\n", api.ErrLarge, 2000)
	refusedReview(t, text+"note 2001 a 0 ann open: \n", api.ErrForm, 2000)
	refusedReview(t, text+"note 2002 a 0 ann open: x\n", api.ErrSyntax, 2000)
	for _, state := range []string{"open", "closed"} {
		text := "note 1 a 0 ann " + state + ": x\n" + strings.Repeat("reply bob: y\n", 100)
		checkReview(t, text)
		refusedReview(t, text+"reply bob: y\n", api.ErrLarge, 101)
		refusedReview(t, text+"reply bob: \n", api.ErrForm, 101)
	}
}

func TestP220LongTextsOfReviews(t *testing.T) {
	text := ""
	for n := 1; len(text) < api.MaxText-2000; n++ {
		text += fmt.Sprintf("note %d a 0 ann open: %s\n", n, longText())
	}
	left := api.MaxText - len(text)
	for _, part := range []int{left / 2, left - left/2} {
		text += "reply bob: " + strings.Repeat("y", part-12) + "\n"
	}
	checkReview(t, text)
	refusedReview(t, text+"x", api.ErrLarge, 0)
	refusedReview(t, strings.Repeat("\n", api.MaxText), api.ErrSyntax, 0)
	refusedReview(t, strings.Repeat("\n", api.MaxText+1), api.ErrLarge, 0)
}

// A review that is read goes on as the other one does, but for who closed notes.
func TestP220ReadsWhatIsWritten(t *testing.T) {
	m := mixer{}
	forgotten := 0
	for range 300 {
		r := conform.NewReview()
		l := m.acts(r, nil, m.from(0, 40))
		q := checkReview(t, r.Text())
		areNotes(t, q.Notes("", false), r.Notes("", false))
		var since ledger
		for range 30 {
			a := m.act(l)
			want := a.do(r)
			if a.what == "approve" && want == api.ErrConflict && since.closer(a.shot) == "" {
				// Nobody knows who closed it.
				forgotten++
				checkError(t, a.do(q), api.OK, a)
				break
			}
			checkError(t, a.do(q), want, a)
			if want == api.OK {
				l, since = append(l, a), append(since, a)
			}
			isReview(t, q, r.Text(), a)
		}
	}
	if forgotten < 20 {
		t.Error("only", forgotten, "closers were forgotten")
	}
}

func TestP220SpoiledTexts(t *testing.T) {
	m := mixer{}
	checkSpoiled(t, 3000, func() string {
		r := conform.NewReview()
		_, e := r.Add("a", m.below(100), "ann", one(&m, goodTexts()...))
		checkError(t, e, api.OK, "Add")
		m.acts(r, ledger{{what: "add", shot: "a", author: "ann"}}, m.from(1, 12))
		return m.spoiled(r.Text(), "\n 012ab:._-\t\x00")
	}, conform.ParseReview)
}
