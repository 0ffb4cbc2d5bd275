package frame_test

import (
	"strings"
	"testing"

	"dyehouse/api"
	"dyehouse/frame"
)

const (
	zeros = "00000000 00000000 00000000 00000000"
	ones  = "3f800000 3f800000 3f800000 3f800000"
)

func TestP29Print(t *testing.T) {
	nan := single(0xff800001)
	for _, c := range []struct {
		f    api.Frame
		want string
	}{
		{of(0, 0, 1, 1, 0, 0, 0, 0), "frame 0 0 1 1\n" + zeros + "\n"},
		{of(-1048576, 1048574, 1, 2, 1, 1, 1, 1, minusZero(), nan, infinity(), single(1)), "frame -1048576 1048574 1 2\n" + ones + "\n80000000 7fc00000 7f800000 00000001\n"},
		{of(7, -8, 3, 1, 0, 0, 0, 0, 1, 1, 1, 1, -infinity(), 0.5, 2, -2), "frame 7 -8 3 1\n" + zeros + " | " + ones + " | ff800000 3f000000 40000000 c0000000\n"},
	} {
		if text, e := frame.Print(c.f); text != c.want || e != api.OK {
			t.Errorf("Print of %v: %q %d", c.f, text, e)
		}
		f, n, e := frame.Parse(c.want)
		if check(t, f, e, c.f, "Parse", c.want); n != 0 {
			t.Errorf("Parse of %q: line %d", c.want, n)
		}
	}
}

func TestP29ParseOfPrint(t *testing.T) {
	for i, r := range append(goodRegions(), region(-5, -7, 13, 9)) {
		f := wild(r, uint64(i))
		text, e := frame.Print(f)
		if e != api.OK || strings.Count(text, "\n") != r.H+1 || !strings.HasSuffix(text, "\n") {
			t.Errorf("Print of %v: %d", r, e)
		}
		g, n, e := frame.Parse(text)
		if check(t, g, e, f, "Parse of Print", r); n != 0 {
			t.Errorf("Parse of Print of %v: line %d", r, n)
		}
	}
}

// unread tells of a text that Parse does not refuse like this.
func unread(t *testing.T, text string, line int, want api.Errno) {
	t.Helper()
	f, n, e := frame.Parse(text)
	if n != line {
		t.Errorf("Parse of %.200q: line %d, want %d", text, n, line)
	}
	refused(t, f, e, want, "Parse", text[:min(len(text), 200)])
}

func TestP29ParseFirstLine(t *testing.T) {
	for _, line := range []string{
		"", " ", "frame", "frame ", "frame 0 0 1", "frame 0 0 1 1 ", "frame 0 0 1 1 1", "frame  0 0 1 1", " frame 0 0 1 1", "frame\t0 0 1 1", "frame 0 0 1  1",
		"Frame 0 0 1 1", "fram 0 0 1 1", "frames 0 0 1 1", "0 0 1 1", "frame 0 0 1 a", "frame a 0 1 1", "frame 0 0 1 1\r", "frame 0 0 1 1\x00",
		"frame 00 0 1 1", "frame 0 -0 1 1", "frame 0 0 01 1", "frame 0 0 1 001", "frame -01 0 1 1", "frame +1 0 1 1", "frame 0 0 +1 1", "frame 0 0 1 1.0",
		"frame 0x1 0 1 1", "frame 1_0 0 1 1", "frame 1e1 0 1 1", "frame - 0 1 1", "frame --1 0 1 1", "frame  0 1 1", "frame 0 0 1 \xff", "frame 0 0 1 \u0661",
		"frame 9223372036854775808 0 1 1", "frame 0 -9223372036854775809 1 1", "frame 0 0 99999999999999999999 1", "frame 0 0 0 x",
	} {
		unread(t, line+"\n"+zeros+"\n", 0, api.ErrSyntax)
		unread(t, line, 0, api.ErrSyntax)
	}
	for _, line := range []string{"frame 0 0 1 1", "frame 0 0 0 1", "frame 0 0 300 1"} { // no line feed
		unread(t, line, 0, api.ErrSyntax)
	}
	for line, want := range map[string]api.Errno{
		"frame 0 0 0 1": api.ErrRange, "frame 0 0 -1 -1": api.ErrRange, "frame 0 0 257 1": api.ErrRange, "frame 0 0 256 65": api.ErrLarge,
		"frame 1048576 0 1 1": api.ErrPlace, "frame -1048577 0 1 1": api.ErrPlace, "frame 9223372036854775807 0 1 1": api.ErrPlace,
		"frame 0 -9223372036854775808 1 1": api.ErrPlace, "frame 0 0 9223372036854775807 2": api.ErrRange, "frame 0 0 1 -9223372036854775808": api.ErrRange,
	} {
		unread(t, line+"\n", 0, want)
		unread(t, line+"\n"+zeros+"\n", 0, want)
		unread(t, line+"\nwrong", 0, want)
	}
}

func TestP29ParseRows(t *testing.T) {
	const head = "frame 0 0 2 2\n"
	good := zeros + " | " + ones
	for _, row := range []string{
		"", " ", zeros, zeros + " |", zeros + " | ", ones + " " + zeros, zeros + "  |  " + ones, zeros + "|" + ones, zeros + " || " + ones, zeros + " : " + ones,
		good + " ", " " + good, good + " |", good + " | " + ones, good + " 00000000", "| " + good, good[:len(good)-9], good[:len(good)-1], good + "0", good + "\r", good + "\x00",
		strings.Replace(good, "3f8", "3F8", 1), strings.Replace(good, "3f8", "3g8", 1), strings.Replace(good, " ", "\t", 1), strings.Replace(good, " ", "  ", 1), strings.Replace(good, " ", " | ", 1),
		strings.Replace(good, "00000000", "0", 1), strings.Replace(good, "00000000", "", 1), strings.Replace(good, "00000000", "|", 1), strings.Replace(good, "|", "00000000", 1),
		strings.Repeat(" ", 8),
		"7fc00001 00000000 00000000 00000000 | 00000000 00000000 00000000 0000000", // the form of all comes first
		"7fc00001 00000000 00000000 00000000 | 00000000 00000000 00000000 0000000X",
		"7fc00001 00000000 00000000 00000000 / 00000000 00000000 00000000 00000000",
		"7fc00001 " + good,
	} {
		unread(t, head+row+"\n"+good+"\n", 1, api.ErrSyntax)
		unread(t, head+good+"\n"+row+"\n", 2, api.ErrSyntax)
	}
	for _, number := range []string{"7fc00001", "ffc00000", "7f800001", "ff800001", "ffffffff"} {
		for _, row := range []string{strings.Replace(good, "00000000", number, 1), good[:len(good)-8] + number} {
			unread(t, head+row+"\n"+good+"\n", 1, api.ErrForm)
			unread(t, head+good+"\n"+row+"\n", 2, api.ErrForm)
			unread(t, head+row+"\n", 1, api.ErrForm)
			unread(t, head+row+"\nwrong\n", 1, api.ErrForm)
			unread(t, head+row, 1, api.ErrSyntax)
			unread(t, head+good+"\n"+row, 2, api.ErrSyntax)
			unread(t, head+good+"\n"+row+"\nmore", 2, api.ErrForm)
		}
	}
}

func TestP29ParseLines(t *testing.T) {
	const head = "frame 0 0 1 3\n"
	unread(t, head, 1, api.ErrSyntax)
	unread(t, head+zeros, 1, api.ErrSyntax)
	unread(t, head+zeros+"\n", 2, api.ErrSyntax)
	unread(t, head+zeros+"\n"+ones, 2, api.ErrSyntax)
	unread(t, head+zeros+"\n"+ones+"\n", 3, api.ErrSyntax)
	unread(t, head+zeros+"\n"+ones+"\n"+zeros, 3, api.ErrSyntax)
	unread(t, head+zeros+"\n\n"+ones+"\n"+zeros+"\n", 2, api.ErrSyntax)
	whole := head + zeros + "\n" + ones + "\n" + zeros + "\n"
	for _, more := range []string{"\n", " ", "\n\n\n", zeros, zeros + "\n", "7fc00001\n", "x\n" + whole} {
		unread(t, whole+more, 4, api.ErrSyntax)
	}
	if _, n, e := frame.Parse(whole); n != 0 || e != api.OK {
		t.Errorf("Parse: %d %d", n, e)
	}
}

func TestP29ParseLarge(t *testing.T) {
	for _, head := range []string{"", "frame 0 0 1 1\n" + zeros + "\n", "frame 0 0 0 0\n"} {
		unread(t, head+strings.Repeat("0", api.MaxText+1-len(head)), 0, api.ErrLarge)
		unread(t, head+strings.Repeat("\n", api.MaxText+1-len(head)), 0, api.ErrLarge)
	}
	unread(t, strings.Repeat(" ", api.MaxText), 0, api.ErrSyntax)
	head := "frame 0 0 1 1\n" + zeros + "\n"
	unread(t, head+strings.Repeat(" ", api.MaxText-len(head)), 2, api.ErrSyntax)
	head = "frame 0 0 1 1\n"
	unread(t, head+strings.Repeat(" ", api.MaxText-len(head)), 1, api.ErrSyntax)
	unread(t, head+strings.Repeat(" ", api.MaxText-len(head)-1)+"\n", 1, api.ErrSyntax)
}
