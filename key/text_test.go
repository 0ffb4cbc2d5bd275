package key_test

import (
	"strings"
	"testing"

	"dyehouse/api"
	"dyehouse/key"
)

// checkRead tells of a text that is not read as want.
func checkRead(t *testing.T, text string, want api.Window) {
	t.Helper()
	got, e := key.Parse(text)
	checkWindow(t, got, e, want, "Parse", text)
}

func TestP116Print(t *testing.T) {
	for text, w := range map[string]api.Window{
		"box 0 0 0 0 0 in":                                box(0, 0, 0, 0, 0),
		"box -0 0.1 1e-45 -0 4096 out":                    outside(box(minusZero(), 0.1, least, minusZero(), 4096)),
		"box 1.5 -2.25 3 4 5 in":                          box(1.5, -2.25, 3, 4, 5),
		"box -1.048576e+06 7 8 9 10 out":                  outside(box(-far, 7, 8, 9, 10)),
		"ellipse 1 2 3 4 5 in":                            ellipse(1, 2, 3, 4, 5),
		"ellipse 1 2 0.33333334 4 5 out":                  outside(ellipse(1, 2, 1.0/3, 4, 5)),
		"polygon 0 0 0 0 0 in 1 2 -3 4 1048576 -1048576":  polygon(api.Point{X: 1, Y: 2}, api.Point{X: -3, Y: 4}, api.Point{X: far, Y: -far}),
		"polygon 0 -0 0 0 0 out 0 0 10 -10 200 -200 3 33": outside(withSingle(polygon(api.Point{}, api.Point{X: 10, Y: -10}, api.Point{X: 200, Y: -200}, api.Point{X: 3, Y: 33}), 1, minusZero())),
	} {
		got, e := key.Print(w)
		if got != text || e != api.OK {
			t.Errorf("Print of %v: %q, error %d, want %q", w, got, e, text)
		}
		checkRead(t, text, w)
	}
	for _, c := range badWindows() {
		got, e := key.Print(c.window)
		refused(t, got, e, c.error, "Print", c.window)
	}
}

func TestP116ParseOfPrint(t *testing.T) {
	m := mixer{}
	for range 5000 {
		w := m.window()
		if m.below(2) == 0 {
			w = m.like(w)
		}
		text, e := key.Print(w)
		checkError(t, e, api.OK, "Print", w)
		checkRead(t, text, w)
	}
	w := polygon(many(32)...)
	text, _ := key.Print(w)
	checkRead(t, text, w)
}

// Numbers are those of num.Parse, which may have needless zeros and exponents.
func TestP116ParseNumbers(t *testing.T) {
	for text, w := range map[string]api.Window{
		"box 001 -002.50 0.3e1 4e+0 50e-1 in": box(1, -2.5, 3, 4, 5),
		"ellipse 0 0 1e-999 1 0 in":           {}, // 0 is at odds with an ellipse
		"box 1e2 0.00000 -0.0 1e-45 0 out":    outside(box(100, 0, minusZero(), least, 0)),
	} {
		if w.Kind != 0 {
			checkRead(t, text, w)
			continue
		}
		got, e := key.Parse(text)
		refusedWindow(t, got, e, api.ErrConflict, "Parse", text)
	}
}

func TestP116ParseSyntax(t *testing.T) {
	const good, points = "box 1 2 3 4 5 in", "polygon 0 0 0 0 0 out 0 0 8 0 0 -8"
	l := []string{
		"", " ", "in", "box", "box in", "0 0 0 0 0 in", " 0 0 0 0 0 in", "1 0 0 0 0 0 in", "disc 1 2 3 4 5 in", "Box 1 2 3 4 5 in", "BOX 1 2 3 4 5 in", "boxes 1 2 3 4 5 in", "ellips 1 2 3 4 5 in",
		"box 1 2 3 4 5", "box 1 2 3 4 5 ", "box 1 2 3 4 in", "box 1 2 3 4 5 6 in", "box 1 2 3 4 5 In", "box 1 2 3 4 5 OUT", "box 1 2 3 4 5 inout", "box 1 2 3 4 5 0", "box 1 2 3 4 5 in out", "box in 1 2 3 4 5",
		"box 1 2 3 4 x in", "box 1 2 3 4 +5 in", "box 1 2 3 4 .5 in", "box 1 2 3 4 5. in", "box 1 2 3 4 0x5 in", "box 1 2 3 4 5e in", "box 1 2 3 4 5e1234 in", "box 1 2 3 4 NaN in", "box 1 2 3 4 +inf in", "box 1,2,3,4,5 in",
		"box 1 2 3 4 " + strings.Repeat("0", 101) + " in", "disc nan 2 3 4 5 in", "box nan 2 3 4 5 on", "box inf 2 3 4 5 in 1", "box 9 9 9 9 -1 in 1",
		"polygon 0 0 0 0 0 in 1", "polygon 0 0 0 0 0 in 1 2 3", "polygon 1 1 1 1 1 in 0 0 8 0 0", points + " 1", points + " 1 x", points + " x 1", points + " 1.0 2", points + " 1 2.5", points + " 1e1 2",
		points + " 01 2", points + " 1 02", points + " 1 -0", points + " -0 1", points + " 00 1", points + " -01 1", points + " +1 2", points + " 1 +2", points + " 0x1 2", points + " 1_0 2", points + " nan 2", points + " - 2", points + " 1 -", points + " --1 2",
		points + " 9223372036854775808 0", points + " 0 -9223372036854775809", points + " 0 99999999999999999999999",
	}
	for _, text := range []string{good, points} {
		l = append(l, text+" ", " "+text, text+"\n", "\n"+text, text+"\r\n", text+"\t", text+"\x00", text+"  ", text+" # no", text+"\n"+text, strings.Replace(text, " ", "  ", 1), strings.Replace(text, " ", "\t", 1),
			strings.Replace(text, " ", "\n", 1), strings.Replace(text, " in", "  in", 1)+" ", strings.ToUpper(text), text[:len(text)-1]+"x", text+"\xff", text+" in")
	}
	for _, text := range l {
		got, e := key.Parse(text)
		refusedWindow(t, got, e, api.ErrSyntax, "Parse", text)
	}
}

// What has its form is read, and may be wrong all the same.
func TestP116ParseWindowErrors(t *testing.T) {
	manyPoints := "polygon 0 0 0 0 0 in" + strings.Repeat(" 1 2", 33)
	for text, want := range map[string]api.Errno{
		"box nan 2 3 4 5 in": api.ErrForm, "box 1 inf 3 4 5 in": api.ErrForm, "box 1 2 -inf 4 5 out": api.ErrForm, "ellipse 1 2 3 4 1e99 out": api.ErrForm, "polygon 0 0 0 0 nan in": api.ErrForm,
		"box 1048577 0 0 0 0 in": api.ErrRange, "box 0 0 -1 0 0 in": api.ErrRange, "box 0 0 0 0 4097 in": api.ErrRange, "box 0 0 1 1 0 in 1 2": api.ErrRange, "ellipse 0 0 1 1 0 in 1 2 3 4 5 6": api.ErrRange,
		"polygon 0 0 0 0 0 in": api.ErrRange, "polygon 0 0 0 0 0 in 1 2": api.ErrRange, "polygon 0 0 0 0 0 in 1 2 3 4": api.ErrRange, manyPoints: api.ErrRange,
		"polygon 0 0 0 0 0 in 1 2 3 4 5 1048577": api.ErrPlace, "polygon 1 0 0 0 0 in -1048577 2 3 4 5 6": api.ErrPlace, "polygon 0 0 0 0 0 in 9223372036854775807 2 3 4 5 6": api.ErrPlace, "polygon 0 0 0 0 0 in 1 -9223372036854775808 3 4 5 6": api.ErrPlace,
		"polygon 0 0 0 0 1 in 1 2 3 4 5 6": api.ErrConflict, "polygon 1e-45 0 0 0 0 in 1 2 3 4 5 6": api.ErrConflict, "ellipse 0 0 0 1 0 in": api.ErrConflict, "ellipse 0 0 1 -0 0 in": api.ErrConflict,
	} {
		got, e := key.Parse(text)
		refusedWindow(t, got, e, want, "Parse", text)
	}
}
