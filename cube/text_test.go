package cube_test

import (
	"strconv"
	"strings"
	"testing"

	"dyehouse/api"
	"dyehouse/cube"
)

// knownText is the text of the cube known.
const knownText = "size 2\ndomain 0 1\n0 0 0\n1 -1 2\n10 -10 20\n30 -30 60\n100 -100 200\n500 -500 1000\n1000 -1000 2000\n7000 -7000 14000\n"

// entries is the text of so many entries.
func entries(n int) string { return strings.Repeat("0 0.5 1\n", n) }

// checkRead tells of a text that is not read as c.
func checkRead(t *testing.T, text string, c api.Cube) {
	t.Helper()
	got, line, e := cube.Parse(text)
	checkCube(t, got, e, c, c.Size, c.V, "Parse", text[:min(len(text), 200)])
	if line != 0 {
		t.Errorf("Parse of %.200q: line %d", text, line)
	}
}

// unread tells of a text that Parse does not refuse like this.
func unread(t *testing.T, text string, line int, want api.Errno) {
	t.Helper()
	c, n, e := cube.Parse(text)
	if n != line {
		t.Errorf("Parse of %.200q: line %d, want %d", text, n, line)
	}
	refusedCube(t, c, e, want, "Parse", text[:min(len(text), 200)])
}

func TestP95Print(t *testing.T) {
	text, e := cube.Print(known())
	if text != knownText || e != api.OK {
		t.Errorf("Print: %q, error %d", text, e)
	}
	c := api.Cube{Size: 2, Low: minusZero(), High: 0.1, V: append(oddities(), make([]float32, 3)...)}
	want := "size 2\ndomain -0 0.1\ninf -inf nan\nnan nan 0\n-0 1e-45 -1e-45\n1.1754942e-38 -1.1754942e-38 1.1754944e-38\n-1.1754944e-38 1 -1\n0.99999994 1.0000001 2\n-2 3.4028235e+38 -3.4028235e+38\n0 0 0\n"
	if text, e := cube.Print(c); text != want || e != api.OK {
		t.Errorf("Print: %q, error %d", text, e)
	}
	checkRead(t, want, c)
	checkRead(t, knownText, known())
	id, _ := cube.Identity(17)
	text, e = cube.Print(id)
	if !strings.HasPrefix(text, "size 17\ndomain 0 1\n0 0 0\n0.0625 0 0\n") || !strings.HasSuffix(text, "\n0.9375 1 1\n1 1 1\n") || strings.Count(text, "\n") != 2+17*17*17 || e != api.OK {
		t.Errorf("Print of the identity: %.100q, error %d", text, e)
	}
	// The longest text that there is.
	long := cubeOf(17, -maxEnd, maxEnd, func() float32 { return -1.1754943e-38 })
	text, e = cube.Print(long)
	checkError(t, e, api.OK, "Print of a long text")
	checkRead(t, text, long)
}

func TestP95ParseForms(t *testing.T) {
	for from, to := range map[string]string{
		"domain 0 1": "domain 00 1.0", "0 1\n0": "0e9 10e-1\n0", "\n1 -1 2\n": "\n1e0 -01.000 0.2e+1\n", "7000 ": "7e3 ", " 14000\n": " 1.4e004\n", "domain 0": "domain 0.0e-999",
	} {
		text := strings.Replace(knownText, from, to, 1)
		if text == knownText {
			t.Fatal("nothing is replaced", from)
		}
		checkRead(t, text, known())
	}
	c := known()
	c.V[0], c.V[1], c.V[2] = infinity(), -infinity(), single(nanBits)
	for _, words := range []string{"inf -inf nan", "1e39 -1e999 nan", "99e99 -340282356779733661637539395458142568448 nan"} {
		checkRead(t, strings.Replace(knownText, "\n0 0 0\n", "\n"+words+"\n", 1), c)
	}
	for size := 2; size <= 17; size++ {
		n := size * size * size
		l := wantEach(size, func(_, _, _ int) [3]float32 { return [3]float32{0, 0.5, 1} })
		checkRead(t, "size "+strconv.Itoa(size)+"\ndomain -1 1\n"+entries(n), api.Cube{Size: size, Low: -1, High: 1, V: l})
	}
	digits := strings.Repeat("0", 99) // a number may have needless zeros, up to 100 bytes
	wide := "size 17\ndomain " + digits + "0 " + digits + "1\n" + strings.Repeat(digits[:66]+" "+digits[:66]+" "+digits[:67]+"\n", 17*17*17)
	checkRead(t, wide, api.Cube{Size: 17, High: 1, V: make([]float32, 3*17*17*17)})
}

func TestP95ParseFirstLines(t *testing.T) {
	for _, line := range []string{
		"", " ", "size", "size ", "size  2", " size 2", "size 2 ", "size\t2", "size 2 2", "Size 2", "sizes 2", "siz 2", "2", "size 2\r", "size 2\x00", "size two", "size x", "size 2x", "size 2.0", "size 2e0", "size 0x2", "size 1_0",
		"size 02", "size 002", "size 00", "size -0", "size -02", "size +2", "size --2", "size -", "size - 2", "size 1000000000", "size -1000000000", "size 0000000002", "size 9223372036854775808", "size 99999999999999999999", "size nan", "size \xff", "size \u0662", "domain 0 1",
	} {
		for _, rest := range []string{"\ndomain 0 1\n" + entries(8), "\ndomain x\n", "\n", ""} {
			unread(t, line+rest, 0, api.ErrSyntax)
		}
	}
	for _, line := range []string{
		"", " ", "domain", "domain ", "domain 0", "domain 0 ", "domain  0 1", "domain 0  1", " domain 0 1", "domain 0 1 ", "domain 0 1 2", "domain\t0 1", "domain 0\t1", "Domain 0 1", "domains 0 1", "0 1", "domain 0 1\r", "domain 0,1",
		"domain 0 x", "domain x 1", "domain 0 +1", "domain .0 1", "domain 0 1.", "domain 0 1e", "domain 0 0x1", "domain 0 NaN", "domain 0 Inf", "domain 0 1_0", "domain - 1", "domain 0 1e1000", "domain 0 0." + strings.Repeat("0", 99), "size 2",
	} {
		for _, size := range []string{"2", "17", "1", "0", "-5", "18", "999999999"} {
			for _, rest := range []string{"\n" + entries(8), "\nx\n", "\n", ""} {
				unread(t, "size "+size+"\n"+line+rest, 1, api.ErrSyntax)
			}
		}
	}
	for _, size := range []string{"2", "17", "1", "-5"} {
		unread(t, "size "+size, 0, api.ErrSyntax)
		unread(t, "size "+size+"\n", 1, api.ErrSyntax)
		unread(t, "size "+size+"\ndomain 0 1", 1, api.ErrSyntax)
	}
}

func TestP95ParseEntries(t *testing.T) {
	const head = "size 2\ndomain 0 1\n"
	for _, line := range []string{
		"", " ", "0", "0 0", "0 0 ", "0 0 0 ", " 0 0 0", "0  0 0", "0 0 0 0", "0 0 0 0 0 0", "0\t0 0", "0,0,0", "0 0 0\r", "0 0 0\x00", "0 0 x", "x 0 0", "0 x 0", "0 0 +1", "0 .5 0", "0 5. 0", "0 0 1e", "0 0 1E0", "0 0 NaN", "0 0 -nan",
		"0 0 Inf", "0 0 +inf", "0 0 infinity", "0 0 0x1", "0 - 0", "0 0 1_0", "0 0 1e1000", "0 0 #", "# more", "0 0 0 # more", "size 2", "domain 0 1", "0 0 \xff", "0 0 0." + strings.Repeat("0", 99),
	} {
		for n := range 8 {
			unread(t, head+entries(n)+line+"\n"+entries(7-n), 2+n, api.ErrSyntax)
			unread(t, head+entries(n)+line+"\nx\n", 2+n, api.ErrSyntax)
			unread(t, head+entries(n)+line, 2+n, api.ErrSyntax)
			unread(t, "size 2\ndomain 1 nan\n"+entries(n)+line+"\n"+entries(7-n), 2+n, api.ErrSyntax) // ahead of Check's
		}
	}
	for size := 2; size <= 17; size++ {
		head, n := "size "+strconv.Itoa(size)+"\ndomain 0 1\n", size*size*size
		unread(t, head+entries(n-1), 1+n, api.ErrSyntax)
		unread(t, head, 2, api.ErrSyntax)
		unread(t, head+entries(n+1), 2+n, api.ErrSyntax)
		whole := head + entries(n)
		unread(t, whole[:len(whole)-1], 1+n, api.ErrSyntax) // no line feed
		for _, more := range []string{"\n", " ", " \n", "\n\n", "0 0 0", "x", "x\ny\n", whole} {
			unread(t, whole+more, 2+n, api.ErrSyntax)
		}
	}
}

func TestP95ParseSizes(t *testing.T) {
	for _, size := range []string{"0", "1", "18", "19", "100", "999999999", "-1", "-2", "-999999999"} {
		for _, domain := range []string{"0 1", "1 0", "nan inf", "0 1e39"} {
			head := "size " + size + "\ndomain " + domain + "\n"
			for _, rest := range []string{"", "0 0 0\n", entries(8), "x\n", "\n\n\n", " \xff\n0 0\n", "size 2\ndomain 0 1\n"} { // no form is asked for
				unread(t, head+rest, 0, api.ErrRange)
			}
			// Each line ends with a line feed, also one that is not asked for its form.
			unread(t, head+"x", 2, api.ErrSyntax)
			unread(t, head+"x\n\n0 0 0", 4, api.ErrSyntax)
		}
	}
}

func TestP95ParseErrors(t *testing.T) {
	for domain, want := range map[string]api.Errno{
		"nan 1": api.ErrForm, "0 nan": api.ErrForm, "-inf 0": api.ErrForm, "0 inf": api.ErrForm, "0 1e39": api.ErrForm, "-1e39 1e39": api.ErrForm, "inf -inf": api.ErrForm,
		"0 0": api.ErrOrder, "1 0": api.ErrOrder, "-0 0": api.ErrOrder, "0 -0": api.ErrOrder, "1 1.00000001": api.ErrOrder, "0 1e-99": api.ErrOrder, "1e30 1e20": api.ErrOrder,
		"0 1048577": api.ErrRange, "-1048577 0": api.ErrRange, "-1e9 1e9": api.ErrRange, "1e20 1e30": api.ErrRange,
	} {
		unread(t, "size 2\ndomain "+domain+"\n"+entries(8), 0, want)
		unread(t, "size 2\ndomain "+domain+"\n"+entries(7), 9, api.ErrSyntax)
		unread(t, "size 2\ndomain "+domain+"\n"+entries(9), 10, api.ErrSyntax)
	}
	for _, head := range []string{"", "size 2\n", knownText, "x\n", "size 1\ndomain 0 1\n"} {
		unread(t, head+strings.Repeat("0", api.MaxText+1-len(head)), 0, api.ErrLarge)
		unread(t, head+strings.Repeat("\n", api.MaxText+1-len(head)), 0, api.ErrLarge)
	}
	unread(t, strings.Repeat(" ", api.MaxText), 0, api.ErrSyntax)
	unread(t, strings.Repeat("\n", api.MaxText), 0, api.ErrSyntax)
	unread(t, knownText+strings.Repeat("\n", api.MaxText-len(knownText)), 10, api.ErrSyntax)
	head := "size 2\ndomain 0 1\n"
	unread(t, head+strings.Repeat(" ", api.MaxText-len(head)-1)+"\n", 2, api.ErrSyntax)
	head = "size 1\ndomain 0 1\n"
	unread(t, head+strings.Repeat("\n", api.MaxText-len(head)), 0, api.ErrRange)
}
