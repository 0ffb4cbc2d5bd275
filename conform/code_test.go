package conform_test

import (
	"fmt"
	"math"
	"math/big"
	"strings"
	"testing"

	"dyehouse/api"
	"dyehouse/conform"
)

// rates are all that there are, with the frames of their seconds.
func rates() map[int]int {
	return map[int]int{24: 24, 25: 25, api.RateDrop: 30, 30: 30, 48: 48, 50: 50, 60: 60}
}

func badRates() []int {
	return append(badInts(), 0, 1, 15, 23, 26, 27, 28, 31, 47, 49, 51, 59, 61, 100, 120)
}

// isLeftOut says whether the rate leaves a code out.
func isLeftOut(rate int, c api.Code) bool {
	return rate == 29 && strings.HasSuffix(fmt.Sprint(c.M), "0") == false && c.S == 0 && (c.F == 0 || c.F == 1)
}

// eachCode calls for each code of a day, in order, with its number.
func eachCode(rate int, call func(n int, c api.Code)) int {
	n, each := 0, rates()[rate]
	var c api.Code
	for c.H = 0; c.H < 24; c.H++ {
		for c.M = 0; c.M < 60; c.M++ {
			for c.S = 0; c.S < 60; c.S++ {
				for c.F = 0; c.F < each; c.F++ {
					if c.S == 0 && isLeftOut(rate, c) {
						continue
					}
					call(n, c)
					n++
				}
			}
		}
	}
	return n
}

// codeText is how a code is written.
func codeText(rate int, c api.Code) string {
	form := "%02d:%02d:%02d:%02d"
	if rate == 29 {
		form = "%02d:%02d:%02d;%02d"
	}
	return fmt.Sprintf(form, c.H, c.M, c.S, c.F)
}

func TestP210EveryCodeOfTheDay(t *testing.T) {
	days := map[int]int{24: 2073600, 25: 2160000, 29: 2589408, 30: 2592000, 48: 4147200, 50: 4320000, 60: 5184000}
	for rate := range rates() {
		many := eachCode(rate, func(n int, c api.Code) {
			got, e := conform.Frames(rate, c)
			d, f := conform.CodeOf(rate, n)
			if got != n || e != api.OK || d != c || f != api.OK {
				t.Fatal("rate", rate, "code", c, "number", n, "got", got, e, d, f)
			}
			if n%97 != 0 && (c.S > 0 || c.F > 2) {
				return
			}
			text, e := conform.PrintCode(rate, c)
			is(t, text, e, codeText(rate, c), "PrintCode", rate, c)
			d, e = conform.ParseCode(rate, text)
			is(t, d, e, c, "ParseCode", rate, text)
			if t.Failed() {
				t.FailNow()
			}
		})
		if many != days[rate] {
			t.Error("rate", rate, "has", many, "codes a day")
		}
	}
}

func TestP210NumbersAreTakenModuloADay(t *testing.T) {
	m := mixer{}
	for rate := range rates() {
		day := eachCode(rate, func(int, api.Code) {})
		last := api.Code{H: 23, M: 59, S: 59, F: rates()[rate] - 1}
		for n, want := range map[int]api.Code{0: {}, -1: last, day - 1: last, day: {}, day + 1: {F: 1}, -day: {}, -day + 1: {F: 1}, -day - 1: last, 7 * day: {}, -7*day - 1: last} {
			c, e := conform.CodeOf(rate, n)
			is(t, c, e, want, "CodeOf", rate, n)
		}
		for i := range 1000 {
			n := int(m.next())<<32 ^ int(m.next())
			if i < len(badInts()) {
				n = badInts()[i]
			}
			rest := new(big.Int).Mod(big.NewInt(int64(n)), big.NewInt(int64(day)))
			want, _ := conform.CodeOf(rate, int(rest.Int64()))
			c, e := conform.CodeOf(rate, n)
			is(t, c, e, want, "CodeOf", rate, n)
		}
	}
}

func TestP210KnownCodes(t *testing.T) {
	for _, v := range []struct {
		rate, n int
		text    string
	}{
		{24, 86400, "01:00:00:00"}, {60, 59, "00:00:00:59"}, {48, 2880, "00:01:00:00"}, {50, 4319999, "23:59:59:49"},
		{29, 0, "00:00:00;00"}, {29, 1, "00:00:00;01"}, {29, 1799, "00:00:59;29"}, {29, 1800, "00:01:00;02"}, {29, 3597, "00:01:59;29"}, {29, 3598, "00:02:00;02"},
		{29, 17981, "00:09:59;29"}, {29, 17982, "00:10:00;00"}, {29, 17983, "00:10:00;01"}, {29, 19782, "00:11:00;02"}, {29, 107892, "01:00:00;00"}, {29, 2589407, "23:59:59;29"},
	} {
		c, e := conform.ParseCode(v.rate, v.text)
		checkError(t, e, api.OK, "ParseCode", v.text)
		n, e := conform.Frames(v.rate, c)
		is(t, n, e, v.n, "Frames", v.text)
		c, e = conform.CodeOf(v.rate, v.n)
		checkError(t, e, api.OK, "CodeOf", v.n)
		text, e := conform.PrintCode(v.rate, c)
		is(t, text, e, v.text, "PrintCode", v.n)
	}
}

// refusedCode tells of a code that Frames or PrintCode take.
func refusedCode(t *testing.T, rate int, c api.Code, want api.Errno) {
	t.Helper()
	n, e := conform.Frames(rate, c)
	refused(t, n, e, want, "Frames", rate, c)
	text, e := conform.PrintCode(rate, c)
	refused(t, text, e, want, "PrintCode", rate, c)
}

func TestP210Errors(t *testing.T) {
	for _, rate := range badRates() {
		for _, c := range []api.Code{{}, {H: 24}, {M: 1}, {F: -1}} {
			refusedCode(t, rate, c, api.ErrKind)
		}
		c, e := conform.CodeOf(rate, 7)
		refused(t, c, e, api.ErrKind, "CodeOf", rate)
		for _, text := range []string{"00:00:00:00", "00:00:00;00", "", "x", "99:99:99:99"} {
			c, e = conform.ParseCode(rate, text)
			refused(t, c, e, api.ErrKind, "ParseCode", rate, text)
		}
	}
	for rate, each := range rates() {
		for _, n := range append(badInts(), 60, 61, 100) {
			for _, c := range []api.Code{{H: n}, {M: n}, {S: n}, {F: n}, {M: 1, F: n}, {H: n, M: 1}, {M: 11, S: n, F: 1}} {
				refusedCode(t, rate, c, api.ErrRange)
			}
		}
		for _, c := range []api.Code{{H: 24}, {H: 24, M: 59, S: 59}, {F: each}, {H: 23, M: 59, S: 59, F: each}, {M: 1, F: each}} {
			refusedCode(t, rate, c, api.ErrRange)
			if c.F > 59 {
				continue
			}
			d, e := conform.ParseCode(rate, codeText(rate, c))
			refused(t, d, e, api.ErrRange, "ParseCode", rate, c)
		}
		for minute := range 60 {
			for f := range 3 {
				c := api.Code{H: 5, M: minute, F: f}
				if !isLeftOut(rate, c) {
					_, e := conform.Frames(rate, c)
					checkError(t, e, api.OK, rate, c)
					continue
				}
				refusedCode(t, rate, c, api.ErrPlace)
				d, e := conform.ParseCode(rate, codeText(rate, c))
				refused(t, d, e, api.ErrPlace, "ParseCode", rate, c)
			}
		}
	}
}

func TestP210SyntaxOfCodes(t *testing.T) {
	for rate := range rates() {
		good := codeText(rate, api.Code{H: 1, M: 2, S: 3, F: 4})
		c, e := conform.ParseCode(rate, good)
		is(t, c, e, api.Code{H: 1, M: 2, S: 3, F: 4}, good)
		texts := []string{"", "0", good[1:], good[:10], good + "0", "0" + good, " " + good[1:], good[:10] + " ", good[:3] + good, "1:02:03:004", "-1:02:03:04", "+1" + good[2:], "-0" + good[2:], "0x" + good[2:], "1_" + good[2:], "\xff\xff" + good[2:], "é" + good[2:]}
		for i := range good {
			for _, b := range []byte(" 0:;./x-+\x00\x80\xff") {
				spoiled := good[:i] + string([]byte{b}) + good[i+1:]
				// A digit in the place of a digit is no error.
				if spoiled != good && (b != '0' || i%3 == 2) {
					texts = append(texts, spoiled)
				}
			}
			texts = append(texts, good[:i]+good[i+1:], good[:i]+"0"+good[i:])
		}
		for _, text := range texts {
			c, e := conform.ParseCode(rate, text)
			refused(t, c, e, api.ErrSyntax, "ParseCode", rate, text)
		}
		// The form comes ahead of the numbers.
		c, e = conform.ParseCode(rate, "99:99:99.99")
		refused(t, c, e, api.ErrSyntax, "ParseCode", rate)
	}
}

// Numbers that would be right if sums went round are none.
func TestP210GreatNumbers(t *testing.T) {
	for _, h := range []int{math.MaxInt / 60, math.MinInt / 60, 1 << 60, 1 << 58} {
		refusedCode(t, 25, api.Code{H: h}, api.ErrRange)
		refusedCode(t, 29, api.Code{M: h}, api.ErrRange)
	}
}
