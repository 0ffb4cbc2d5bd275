package conform_test

import (
	"fmt"
	"strings"
	"testing"

	"dyehouse/api"
	"dyehouse/conform"
)

// threeVersions are the lines of a book.
const threeVersions = "version 1 0 2\nnote first\nset a 1\ncontrast 0.5 1.25\nset b 0\n" +
	"version 2 1 2\nnote \ndrop a\nset b 2\nprinter 25 0 50\ncontrast 0.5 1.25\n" +
	"version 3 1 0\nnote the same: as 1\n"

// versionsOf saves threeVersions.
func versionsOf(t *testing.T) *conform.Book {
	t.Helper()
	b := conform.NewBook()
	for i, k := range []api.Look{
		{Rows: []api.LookRow{row("a", someGrades()[1]...), row("b")}}, {Rows: []api.LookRow{row("b", someGrades()[4]...)}}, {Rows: []api.LookRow{row("a", someGrades()[1]...), row("b")}},
	} {
		n, e := b.Save([]int{0, 1, 1}[i], k, []string{"first", "", "the same: as 1"}[i])
		is(t, n, e, i+1, "Save")
	}
	return b
}

// refusedBook tells of a text that has not this error in this line.
func refusedBook(t *testing.T, text string, want api.Errno, line int) {
	t.Helper()
	b, at, e := conform.ParseBook(text)
	if b != nil || at != line || e != want {
		t.Errorf("ParseBook %.300q: error %d in line %d, want %d in %d", text, e, at, want, line)
	}
}

// checkBook tells of a text that is not read as a book.
func checkBook(t *testing.T, text string) {
	t.Helper()
	b, line, e := conform.ParseBook(text)
	if e != api.OK || line != 0 || b == nil {
		t.Errorf("ParseBook %.300q: error %d in line %d", text, e, line)
		return
	}
	isBook(t, b, text, "ParseBook")
}

func TestP219PlainText(t *testing.T) {
	isBook(t, versionsOf(t), threeVersions)
	isBook(t, conform.NewBook(), "")
	checkBook(t, "")
	checkBook(t, threeVersions)
	for _, note := range append(goodTexts(), "", "version 2 0 0") {
		checkBook(t, "version 1 0 0\nnote "+note+"\n")
	}
	for _, name := range goodNames() {
		checkBook(t, "version 1 0 1\nnote \nset "+name+" 0\nversion 2 1 1\nnote \ndrop "+name+"\n")
	}
	text := "version 1 0 1\nnote \nset a 64\n"
	for i := range 64 {
		text += fmt.Sprintf("printer %d 25 25\n", i%51)
	}
	checkBook(t, text)
	checkBook(t, "version 1 0 0\nnote \nversion 2 0 0\nnote \nversion 3 2 0\nnote \nversion 4 1 0\nnote \n")
}

func TestP219SyntaxOfVersions(t *testing.T) {
	lines := strings.SplitAfter(threeVersions, "\n")
	for at, l := range map[int][]string{
		0: {"\n", " \n", "x\n", "version\n", "version \n", "version 1\n", "version 1 0\n", "version 1 0 \n", "version 1 0 2 \n", "version 1 0 2 0\n", " version 1 0 2\n", "version  1 0 2\n", "version 1  0 2\n", "Version 1 0 2\n",
			"version 0 0 2\n", "version 2 0 2\n", "version 01 0 2\n", "version +1 0 2\n", "version -1 0 2\n", "version a 0 2\n", "version 1 00 2\n", "version 1 -0 2\n", "version 1 x 2\n", "version 1 99999999999999999999 2\n",
			"version 1 0 02\n", "version 1 0 -0\n", "version 1 0 -1\n", "version 1 0 x\n", "version 1 0 2.0\n", "version 1 0 99999999999999999999\n", "version\t1 0 2\n", "version 1 0 2\r\n", "note first\n", "set a 1\n"},
		1: {"\n", "x\n", "note\n", "Note first\n", "notefirst\n", " note first\n", "note\tfirst\n", "version 1 0 2\n", "set a 1\n"},
		2: {"\n", "x\n", "set\n", "set \n", "set a\n", "set a \n", "set a 1 \n", "set a 1 1\n", "set  a 1\n", " set a 1\n", "Set a 1\n", "set a 01\n", "set a +1\n", "set a -1\n", "set a -0\n", "set a x\n", "set a 99999999999999999999\n",
			"set a! 1\n", "set " + longName() + "x 1\n", "set é 1\n", "drop a 1\n", "drop a \n", "drop\n", "drop \n", "drop a!\n", "drop  a\n", "Drop a\n", "dropa\n", "version 2 0 0\n", "note x\n", "contrast 0.5 1.25\n"},
		4:  {"set a 0\n", "set Z 0\n", "drop a\n", "drop A\n", "set b\n", "contrast 0.5 1.25\n"},
		5:  {"version 1 1 2\n", "version 3 1 2\n", "set c 0\n", "drop a\n", "contrast 0.5 1.25\n"},
		8:  {"set a 2\n", "set A 2\n", "drop a\n", "version 3 1 0\n"},
		11: {"printer 25 0 50\n", "version 4 1 0\n", "set c 0\n", "drop b\n"},
	} {
		for _, line := range l {
			spoiled := append([]string{}, lines...)
			spoiled[at] = line
			refusedBook(t, strings.Join(spoiled, ""), api.ErrSyntax, at)
			// What stands behind does not matter.
			refusedBook(t, strings.Join(spoiled[:at+1], "")+"x\n", api.ErrSyntax, at)
		}
	}
	// Lines that are missing.
	for n := 1; n < len(lines)-1; n++ {
		if n == 5 || n == 11 {
			checkBook(t, strings.Join(lines[:n], ""))
			continue
		}
		refusedBook(t, strings.Join(lines[:n], ""), api.ErrSyntax, n)
	}
	refusedBook(t, threeVersions+"\n", api.ErrSyntax, 13)
	refusedBook(t, "version 1 0 1\nnote \nset a 9223372036854775807\n", api.ErrSyntax, 3)
	refusedBook(t, "version 1 0 9223372036854775807\nnote \nset a 0\n", api.ErrSyntax, 3)
	refusedBook(t, "version 1 0 1\nnote \nset a 3\nx\ny\n", api.ErrSyntax, 5)
}

func TestP219OtherErrorsOfTexts(t *testing.T) {
	first := "version 1 0 2\nnote first\nset a 1\ncontrast 0.5 1.25\nset b 0\n"
	for _, v := range []struct {
		text string
		want api.Errno
		line int
	}{
		// Notes that are no texts.
		{"version 1 0 0\nnote a\tb\n", api.ErrForm, 1}, {"version 1 0 0\nnote \r\n", api.ErrForm, 1}, {"version 1 0 0\nnote " + longText() + "y\n", api.ErrForm, 1}, {first + "version 2 1 5\nnote \x00\nx\n", api.ErrForm, 6},
		// Parents that are no versions.
		{"version 1 1 0\nnote \n", api.ErrNone, 0}, {"version 1 -1 0\nnote \n", api.ErrNone, 0}, {"version 1 2 0\nnote \x00\n", api.ErrNone, 0}, {first + "version 2 2 0\nnote \n", api.ErrNone, 5}, {first + "version 2 9223372036854775807 0\n", api.ErrNone, 5},
		// Shots that are left out, but not there.
		{"version 1 0 1\nnote \ndrop a\n", api.ErrConflict, 2}, {first + "version 2 1 1\nnote \ndrop c\n", api.ErrConflict, 7}, {first + "version 2 0 1\nnote \ndrop a\n", api.ErrConflict, 7},
		{first + "version 2 1 2\nnote \ndrop a\ndrop aa\nx\n", api.ErrConflict, 8}, {first + "version 2 1 1\nnote \ndrop a\nversion 3 2 1\nnote \ndrop a\n", api.ErrConflict, 10},
		// grade.Parse's, at the line of the set.
		{"version 1 0 1\nnote \nset a 1\nx\n", api.ErrSyntax, 2}, {"version 1 0 1\nnote \nset a 2\ncontrast 1 1\ncontrast 1\nx\n", api.ErrSyntax, 2}, {"version 1 0 1\nnote \nset a 1\nprinter 25 25 51\n", api.ErrRange, 2},
		{"version 1 0 1\nnote \nset a 1\ncontrast 0 nan\n", api.ErrForm, 2}, {first + "version 2 1 2\nnote \nset b 0\nset c 2\ncontrast 0 1\nwheels 0 0 0 0 1 1 1 1 1\n", api.ErrRange, 8},
		{"version 1 0 1\nnote \nset a 65\n" + strings.Repeat("printer 25 25 25\n", 65), api.ErrLarge, 2}, {"version 1 0 1\nnote \nset a 65\n" + strings.Repeat("printer 25 25 25\n", 64) + "x\n", api.ErrSyntax, 2},
		{"version 1 0 1\nnote \nset a 1\nversion 2 0 0\nnote \n", api.ErrSyntax, 2},
	} {
		refusedBook(t, v.text, v.want, v.line)
	}
	for _, note := range badTexts() {
		if !strings.Contains(note, "\n") {
			refusedBook(t, "version 1 0 0\nnote "+note+"\n", api.ErrForm, 1)
		}
	}
	for _, name := range badNames() {
		if !strings.Contains(name, "\n") {
			refusedBook(t, "version 1 0 1\nnote \nset "+name+" 0\n", api.ErrSyntax, 2)
			refusedBook(t, "version 1 0 1\nnote \ndrop "+name+"\n", api.ErrSyntax, 2)
		}
	}
}

// Texts that can be read, but that no book writes.
func TestP219TextsThatNoBookWrites(t *testing.T) {
	for _, text := range []string{
		"version 1 0 0\nnote x", "version 1 0 1\nnote x\nset a 0", "version 1 0 1\nnote \nset a 1\ncontrast 0.5 1.25",
		"version 1 0 1\nnote \nset a 1\ncontrast 0.50 1.25\n", "version 1 0 1\nnote \nset a 1\ncontrast  0.5 1.25\n", "version 1 0 1\nnote \nset a 1\ncontrast 0.5 1.25 # x\n", "version 1 0 1\nnote \nset a 1\n contrast 0.5 1.25\n",
		"version 1 0 1\nnote \nset a 1\n\n", "version 1 0 1\nnote \nset a 2\ncontrast 0.5 1.25\n# x\n", "version 1 0 1\nnote \nset a 1\ncontrast 0.1 1.250000001\n",
		// Changes that change nothing.
		"version 1 0 1\nnote \nset a 0\nversion 2 1 1\nnote \nset a 0\n", "version 1 0 1\nnote \nset a 1\ncontrast 0 1\nversion 2 1 1\nnote \nset a 1\ncontrast 0 1\n",
	} {
		lines := strings.Count(strings.TrimSuffix(text, "\n"), "\n") + 1
		refusedBook(t, text, api.ErrSyntax, lines)
	}
}

func TestP219ManyInATextOfABook(t *testing.T) {
	text := ""
	for n := range 1000 {
		text += fmt.Sprintf("version %d %d 0\nnote \n", n+1, n)
	}
	checkBook(t, text)
	refusedBook(t, text+"version 1001 0 0\nnote \n", api.ErrLarge, 2000)
	refusedBook(t, text+"version 1001 1001 0\nnote \n", api.ErrNone, 2000)
	refusedBook(t, text+"version 1002 0 0\nnote \n", api.ErrSyntax, 2000)
	refusedBook(t, text+"version 1001 0 0\n", api.ErrLarge, 2000)
	sets := func(from, to int) string {
		l := ""
		for i := from; i < to; i++ {
			l += fmt.Sprintf("set s%03d 0\n", i)
		}
		return l
	}
	text = "version 1 0 500\nnote \n" + sets(0, 500)
	checkBook(t, text)
	// One shot more, and another one less.
	checkBook(t, text+"version 2 1 2\nnote \nset a 0\ndrop s007\n")
	refusedBook(t, text+"version 2 1 1\nnote \nset a 0\nversion 3 0 0\nnote \n", api.ErrLarge, 504)
	refusedBook(t, text+"version 2 1 2\nnote \nset a 0\nset b 1\nprinter 25 25 25\n", api.ErrLarge, 505)
	refusedBook(t, text+"version 2 1 2\nnote \nset a 0\nx\n", api.ErrSyntax, 505)
	refusedBook(t, "version 1 0 501\nnote \n"+sets(0, 501), api.ErrLarge, 502)
}

func TestP219LongTextsOfBooks(t *testing.T) {
	k := manyShots("s", 150)
	for i := range k.Rows {
		k.Rows[i].Grades = someGrades()[8]
	}
	b := conform.NewBook()
	_, e := b.Save(0, k, "")
	checkError(t, e, api.OK, "Save")
	// Notes fill what is left.
	left := api.MaxText - len(b.Text())
	for n := 2; left > 0; n++ {
		head := len(fmt.Sprintf("version %d 0 0\nnote \n", n))
		note := strings.Repeat("y", left-head)
		if len(note) > 1000 {
			note = note[:900]
		}
		_, e := b.Save(0, api.Look{}, note)
		checkError(t, e, api.OK, n)
		left -= head + len(note)
	}
	text := b.Text()
	if len(text) != api.MaxText {
		t.Fatal(len(text), "bytes")
	}
	checkBook(t, text)
	refusedBook(t, strings.Replace(text, "note y", "note yy", 1), api.ErrLarge, 0)
	refusedBook(t, strings.Repeat("\n", api.MaxText+1), api.ErrLarge, 0)
	refusedBook(t, strings.Repeat("\n", api.MaxText), api.ErrSyntax, 0)
}

func TestP219SpoiledTexts(t *testing.T) {
	m := mixer{}
	checkSpoiled(t, 2000, func() string {
		b := conform.NewBook()
		for n := range m.from(1, 4) {
			_, e := b.Save(m.below(n+1), m.look(), one(&m, "", "x", " y "))
			checkError(t, e, api.OK, "Save")
		}
		return m.spoiled(b.Text(), "\n 0123ab._-\t\x00")
	}, conform.ParseBook)
}

func TestP219ReadsWhatIsWritten(t *testing.T) {
	m := mixer{}
	for range 200 {
		b := conform.NewBook()
		many := m.from(1, 12)
		for n := range many {
			if n > 1 && m.below(3) == 0 {
				_, _, e := b.Join(m.from(1, n), m.from(1, n), one(&m, goodTexts()...))
				checkError(t, e, api.OK, "Join")
				continue
			}
			_, e := b.Save(m.below(n+1), m.look(), one(&m, goodTexts()...))
			checkError(t, e, api.OK, "Save")
		}
		text := b.Text()
		c, line, e := conform.ParseBook(text)
		if e != api.OK || line != 0 {
			t.Fatal("ParseBook", text, line, e)
		}
		isBook(t, c, text, "ParseBook")
		// It goes on as the other one does.
		for n := 1; n <= many; n++ {
			k, e := b.Look(n)
			checkError(t, e, api.OK, n)
			got, e := c.Look(n)
			isLook(t, got, e, k, "Look", n)
			l, _ := b.Line(n)
			line, e := c.Line(n)
			areList(t, line, e, l, "Line", n)
		}
		_, l, e := b.Join(1, many, "more")
		checkError(t, e, api.OK, "Join")
		n, conflicts, e := c.Join(1, many, "more")
		is(t, n, e, many+1, "Join")
		areList(t, conflicts, e, l, "Join")
		isBook(t, c, b.Text(), "Join")
	}
}
