package conform_test

import (
	"fmt"
	"strings"
	"testing"

	"dyehouse/api"
	"dyehouse/conform"
)

// head are the first two lines of a list.
const head = "TITLE: film\nRATE: 25\n"

// The lines of twoEvents.
const (
	firstEvent  = "001 a C 000 00:00:00:10 00:00:00:20 00:00:00:05 00:00:00:15\n"
	secondEvent = "002 b D 004 00:00:00:00 00:00:00:08 00:00:00:15 00:00:00:23\n"
)

// checkListText tells of a text that is not read as a list.
func checkListText(t *testing.T, text string, want api.EditList) {
	t.Helper()
	got, line, e := conform.ParseList(text)
	isList(t, got, e, want, text)
	if line != 0 {
		t.Errorf("ParseList %q: line %d", text, line)
	}
}

// refusedListText tells of a text that has not this error in this line.
func refusedListText(t *testing.T, text string, want api.Errno, line int) {
	t.Helper()
	got, at, e := conform.ParseList(text)
	refusedEdit(t, got, e, want, text)
	if at != line {
		t.Errorf("ParseList %.300q: line %d, want %d", text, at, line)
	}
}

func TestP215PlainText(t *testing.T) {
	text, e := conform.PrintList(twoEvents())
	is(t, text, e, head+firstEvent+secondEvent, "PrintList")
	checkListText(t, text, twoEvents())
	text, e = conform.PrintList(api.EditList{Title: "a.B-_9", Rate: api.RateDrop})
	is(t, text, e, "TITLE: a.B-_9\nRATE: 29\n", "PrintList")
	checkListText(t, text, api.EditList{Title: "a.B-_9", Rate: api.RateDrop})
	// The last frames of a day, of which there is none behind.
	l := api.EditList{Title: "x", Rate: 29, Events: []api.Event{{Reel: "R", Kind: api.EventCut, In: 2589400, Out: 2589407, At: 1800}, {Reel: "S", Kind: api.EventDissolve, Length: 250, Out: 300, At: 1807}}}
	text, e = conform.PrintList(l)
	is(t, text, e, "TITLE: x\nRATE: 29\n001 R C 000 23:59:59;22 23:59:59;29 00:01:00;02 00:01:00;09\n002 S D 250 00:00:00;00 00:00:10;00 00:01:00;09 00:01:10;09\n", "PrintList")
	checkListText(t, text, l)
}

func TestP215ManyEvents(t *testing.T) {
	l := api.EditList{Title: "x", Rate: 24}
	want := "TITLE: x\nRATE: 24\n"
	for i := range api.MaxEvents {
		l.Events = append(l.Events, api.Event{Reel: "a", Kind: api.EventCut, Out: 1, At: i})
		want += fmt.Sprintf("%03d a C 000 00:00:00:00 00:00:00:01 00:00:%02d:%02d 00:00:%02d:%02d\n", i+1, i/24, i%24, (i+1)/24, (i+1)%24)
	}
	text, e := conform.PrintList(l)
	is(t, text, e, want, "PrintList")
	checkListText(t, want, l)
	// One more; and so many more that their numbers have four digits.
	more := want + "501 a C 000 00:00:00:00 00:00:00:01 00:00:20:20 00:00:20:21\n"
	refusedListText(t, more, api.ErrLarge, 0)
	for i := 501; i < 1001; i++ {
		want += fmt.Sprintf("%03d a C 000 00:00:00:00 00:00:00:01 00:00:%02d:%02d 00:00:%02d:%02d\n", i, i/24, i%24, (i+1)/24, (i+1)%24)
	}
	refusedListText(t, want, api.ErrLarge, 0)
	refusedListText(t, strings.Replace(want, "\n1000 ", "\n000 ", 1), api.ErrSyntax, 1001)
}

func TestP215ErrorsOfPrint(t *testing.T) {
	for i, v := range []struct {
		change func(l *api.EditList)
		want   api.Errno
	}{
		{func(l *api.EditList) { l.Title = "a b" }, api.ErrName}, {func(l *api.EditList) { l.Rate = 0 }, api.ErrKind}, {func(l *api.EditList) { l.Events[1].Length = 9 }, api.ErrConflict},
		{func(l *api.EditList) { l.Events[0].In = -1 }, api.ErrRange},
	} {
		text, e := conform.PrintList(changed(v.change))
		refused(t, text, e, v.want, i)
	}
	for rate := range rates() {
		day := eachCode(rate, func(int, api.Code) {})
		for _, v := range []api.Event{{In: 0, Out: 1, At: day - 2}, {In: day - 2, Out: day - 1}, {In: 0, Out: day - 1}} {
			for more := range 4 {
				v.Reel, v.Kind = "a", api.EventCut
				l := api.EditList{Title: "x", Rate: rate, Events: []api.Event{v}}
				text, e := conform.PrintList(l)
				if more == 0 {
					checkError(t, e, api.OK, l)
					checkListText(t, text, l)
				} else {
					refused(t, text, e, api.ErrRange, l)
				}
				// Move what is the greatest of its numbers.
				if v.At > 0 {
					v.At++
				} else {
					v.Out++
				}
			}
		}
		// CheckList's errors come first.
		l := api.EditList{Title: "x", Rate: rate, Events: []api.Event{{Reel: "a", Kind: api.EventCut, Out: 1, At: day}, {Reel: "a", Kind: 3}}}
		text, e := conform.PrintList(l)
		refused(t, text, e, api.ErrKind, l)
	}
}

func TestP215OtherForms(t *testing.T) {
	for _, text := range []string{
		strings.ReplaceAll(head+firstEvent+secondEvent, " ", "\t"), strings.ReplaceAll(head+firstEvent+secondEvent, " ", "  \t "),
		strings.ReplaceAll(head+firstEvent+secondEvent, "\n", "\n\n\n"), "\n\n" + head + firstEvent + secondEvent,
		strings.TrimSuffix(head+firstEvent+secondEvent, "\n"), strings.ReplaceAll(head+firstEvent+secondEvent, "\n", " \n"),
		strings.ReplaceAll(" \n"+head+firstEvent+secondEvent, "\n", "\n\t"),
	} {
		checkListText(t, text, twoEvents())
	}
	checkListText(t, "TITLE: TITLE\nRATE: 24", api.EditList{Title: "TITLE", Rate: 24})
}

func TestP215SyntaxOfHeads(t *testing.T) {
	for text, line := range map[string]int{
		"": 0, "\n": 1, "\n\n": 2, " ": 1, "\t\n ": 2, "TITLE: film": 1, "TITLE: film\n": 1, "TITLE: film\n\n": 2, "\nTITLE: film\n\n ": 4,
		"TITLE:\n": 0, "TITLE:film\nRATE: 25\n": 0, "TITLE film\nRATE: 25\n": 0, "title: film\nRATE: 25\n": 0, "TITLE: a b\nRATE: 25\n": 0, "TITLE : a\nRATE: 25\n": 0, "RATE: 25\nTITLE: film\n": 0,
		"x": 0, "\n\nx": 2, "RATE: 25\n": 0, firstEvent: 0,
		"TITLE: film\nRATE:\n": 1, "TITLE: film\nRATE:25\n": 1, "TITLE: film\nRATE 25\n": 1, "TITLE: film\nRate: 25\n": 1, "TITLE: film\nRATE: 25 0\n": 1, "TITLE: film\n\nRATE: x\n": 2,
		"TITLE: film\nRATE: 025\n": 1, "TITLE: film\nRATE: +25\n": 1, "TITLE: film\nRATE: 25.0\n": 1, "TITLE: film\nRATE: -0\n": 1, "TITLE: film\nRATE: 0x19\n": 1, "TITLE: film\nRATE: 99999999999999999999\n": 1,
		"TITLE: film\nTITLE: film\nRATE: 25\n": 1, "TITLE: film\n" + firstEvent: 1, "TITLE: film\r\nRATE: 25\n": -1, "TITLE: film\nRATE: 25\r\n": 1,
		head + "RATE: 25\n": 2, head + "\n\nTITLE: film\n": 4,
	} {
		if line < 0 {
			// A carriage return is a byte of the title.
			refusedListText(t, text, api.ErrName, 0)
			continue
		}
		refusedListText(t, text, api.ErrSyntax, line)
	}
}

func TestP215SyntaxOfEvents(t *testing.T) {
	words := strings.Fields(secondEvent)
	for i, l := range [][]string{
		{"2", "02", "0002", "001", "003", "-02", "+02", "x", "20", "00b"},
		{},
		{"X", "c", "d", "CD", "CC", "E", "1", "-"},
		{"4", "04", "0004", "x04", "-04", "+04", "4.0", "0x4", "-004", "99999999999999999999", "00_"},
		{"0", "00:00:00;00", "00:00:00:0", "00:00:00:000", "0:00:00:00", "00:00:00", "-0:00:00:00", "x"},
	} {
		for _, word := range l {
			spoiled := append([]string{}, words...)
			spoiled[i] = word
			refusedListText(t, head+firstEvent+strings.Join(spoiled, " ")+"\n", api.ErrSyntax, 3)
			refusedListText(t, "\n"+head+"\n"+firstEvent+"\n"+strings.Join(spoiled, " "), api.ErrSyntax, 6)
		}
	}
	for i := range words {
		refusedListText(t, head+firstEvent+strings.Join(append(append([]string{}, words[:i]...), words[i+1:]...), " ")+"\n", api.ErrSyntax, 3)
		refusedListText(t, head+firstEvent+strings.Join(append(append([]string{}, words[:i]...), append([]string{"x"}, words[i:]...)...), " ")+"\n", api.ErrSyntax, 3)
	}
	refusedListText(t, head+firstEvent+strings.TrimSpace(secondEvent)+" x\n", api.ErrSyntax, 3)
	refusedListText(t, head+secondEvent, api.ErrSyntax, 2)
	refusedListText(t, head+firstEvent+firstEvent, api.ErrSyntax, 3)
	refusedListText(t, head+"000 a C 000 00:00:00:10 00:00:00:20 00:00:00:05 00:00:00:15\n", api.ErrSyntax, 2)
	refusedListText(t, head+"# "+firstEvent, api.ErrSyntax, 2)
}

func TestP215ErrorsOfEvents(t *testing.T) {
	const from, to = "00:00:00:00", "00:00:00:08"
	drop := "TITLE: x\nRATE: 29\n"
	for _, v := range []struct {
		text string
		want api.Errno
		line int
	}{
		// Codes in order, each with all that ParseCode finds.
		{head + firstEvent + "002 b C 000 24:00:00:00 x 00:00:00:15 00:00:00:23\n", api.ErrRange, 3},
		{head + firstEvent + "002 b C 000 x 24:00:00:00 00:00:00:15 00:00:00:23\n", api.ErrSyntax, 3},
		{head + firstEvent + "002 b C 000 " + from + " " + to + " 00:00:00:15 00:00:00:25\n", api.ErrRange, 3},
		{head + firstEvent + "002 b C 000 " + from + " " + to + " 00:60:00:15 00:00:00:25\n", api.ErrRange, 3},
		{head + firstEvent + "002 b C 000 " + from + " " + to + " 00:00:00:15 00:00:00;23\n", api.ErrSyntax, 3},
		{drop + "001 b C 000 00:00:00;00 00:01:00;01 00:00:00;15 00:00:00;23\n", api.ErrPlace, 2},
		{drop + "001 b C 000 00:00:00;00 00:01:00;01 x x\n", api.ErrPlace, 2},
		{drop + "001 b C 000 00:00:00:00 00:00:00;08 00:00:00;15 00:00:00;23\n", api.ErrSyntax, 2},
		// A rate that there is not is an error of ParseCode, or of CheckList.
		{"TITLE: x\nRATE: 23\n\n" + firstEvent, api.ErrKind, 3}, {"TITLE: x\nRATE: -1\n001 a C 000 x x x x\n", api.ErrKind, 2}, {"TITLE: x!\nRATE: 0\n" + firstEvent, api.ErrKind, 2},
		{"TITLE: x\nRATE: 23\n\n", api.ErrKind, 0}, {"TITLE: x!\nRATE: 23\n", api.ErrName, 0}, {"TITLE: x\nRATE: -24\n", api.ErrKind, 0}, {"TITLE: x\nRATE: 23\n001 a x\n", api.ErrSyntax, 2},
		// The form comes ahead of codes, and these ahead of the end.
		{"TITLE: x\nRATE: 23\n001 a X 000 x x x x\n", api.ErrSyntax, 2}, {head + "001 a C 0 24:00:00:00 " + to + " " + from + " " + to + "\n", api.ErrSyntax, 2},
		{head + "001 a C 000 " + from + " " + to + " 00:00:00:01 00:00:00:08\n", api.ErrConflict, 2}, {head + "001 a C 000 " + from + " " + to + " 00:00:00:01 00:00:00:10\n", api.ErrConflict, 2},
		{head + "001 a C 000 " + from + " " + to + " 23:59:59:24 00:00:00:07\n", api.ErrConflict, 2},
		{head + "\n001 a C 000 " + from + " " + to + " " + from + " " + from + "\n\n", api.ErrConflict, 3},
		// What the first line with an error has, whatever there is in others.
		{head + "001 a C 000 " + from + " " + to + " " + from + " " + from + "\nx\n", api.ErrConflict, 2}, {head + firstEvent + "x\n003 a C 000 x x x x\n", api.ErrSyntax, 3},
		{"TITLE: x!\nRATE: 25\nx\n", api.ErrSyntax, 2},
		// CheckList's, behind all lines.
		{"TITLE: x!\n" + head[12:] + firstEvent, api.ErrName, 0}, {"TITLE: " + longName() + "x\nRATE: 25\n", api.ErrName, 0}, {strings.Replace(head+firstEvent, " a ", " a! ", 1), api.ErrName, 0},
		{head + "001 a C 000 " + to + " " + from + " 00:00:00:20 00:00:00:12\n", api.ErrRange, 0}, {head + "001 a C 000 " + to + " " + to + " " + from + " " + from + "\n", api.ErrRange, 0},
		{head + firstEvent + strings.ReplaceAll(firstEvent, "001", "002"), api.ErrOrder, 0}, {head + strings.Replace(secondEvent, "002", "001", 1), api.ErrConflict, 0},
		{head + strings.Replace(firstEvent, "000", "001", 1), api.ErrConflict, 0}, {head + firstEvent + strings.Replace(secondEvent, "004", "009", 1), api.ErrConflict, 0},
		{head + firstEvent + strings.Replace(secondEvent, "004", "1000", 1), api.ErrConflict, 0}, {head + firstEvent + strings.Replace(secondEvent, "004", "000", 1), api.ErrConflict, 0},
	} {
		refusedListText(t, v.text, v.want, v.line)
	}
}

func TestP215LongTexts(t *testing.T) {
	checkListText(t, head+strings.Repeat("\n", api.MaxText-len(head)), api.EditList{Title: "film", Rate: 25})
	checkListText(t, head+strings.Repeat(" ", api.MaxText-len(head)), api.EditList{Title: "film", Rate: 25})
	refusedListText(t, head+strings.Repeat("\n", api.MaxText-len(head)+1), api.ErrLarge, 0)
	refusedListText(t, strings.Repeat("x", api.MaxText+1), api.ErrLarge, 0)
	refusedListText(t, strings.Repeat("x", api.MaxText), api.ErrSyntax, 0)
	refusedListText(t, strings.Repeat("\n", api.MaxText), api.ErrSyntax, api.MaxText)
}

// A text with a byte changed is refused, or is a list that is read back.
func TestP215SpoiledTexts(t *testing.T) {
	m := mixer{}
	taken := 0
	for range 5000 {
		text, e := conform.PrintList(m.list(m.from(0, 3)))
		checkError(t, e, api.OK, text)
		spoiled := m.spoiled(text, "\n\t 0019:;CDab-!\x00")
		l, line, e := conform.ParseList(spoiled)
		if e == api.OK {
			taken++
			again, e := conform.PrintList(l)
			checkError(t, e, api.OK, spoiled)
			if strings.Join(strings.Fields(again), " ") != strings.Join(strings.Fields(spoiled), " ") || line != 0 {
				t.Errorf("ParseList takes %q as %q", spoiled, again)
			}
			continue
		}
		refusedEdit(t, l, e, e, spoiled)
		if line < 0 || line > strings.Count(spoiled, "\n")+1 {
			t.Errorf("ParseList %q: line %d", spoiled, line)
		}
	}
	if taken < 100 {
		t.Error("only", taken, "texts are taken")
	}
}
