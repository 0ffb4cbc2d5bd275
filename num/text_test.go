package num_test

import (
	"math"
	"math/big"
	"strings"
	"testing"

	"dyehouse/api"
	"dyehouse/num"
)

func TestP12Text(t *testing.T) {
	for b, want := range map[uint32]string{
		0x00000000: "0", 0x80000000: "-0", 0x3f800000: "1", 0xbf800000: "-1", 0x3dcccccd: "0.1", 0xc2280000: "-42",
		0x00000001: "1e-45", 0x80000001: "-1e-45", 0x00000002: "3e-45", 0x007fffff: "1.1754942e-38", 0x00800000: "1.1754944e-38",
		0x7f7fffff: "3.4028235e+38", 0xff7fffff: "-3.4028235e+38", 0x7f800000: "inf", 0xff800000: "-inf",
		0x7fc00000: "nan", 0xffc00000: "nan", 0x7f800001: "nan", 0xffffffff: "nan",
		0x47c35000: "100000", 0x49742400: "1e+06", 0x47f12040: "123456.5", 0x49742410: "1.000001e+06", 0x4b800000: "1.6777216e+07",
		0x38d1b717: "0.0001", 0x3727c5ac: "1e-05", 0x38d1b718: "0.000100000005", 0x60ad78ec: "1e+20", 0x322bcc77: "1e-08",
		0x4a000001: "2.0971522e+06", 0x4a000003: "2.0971528e+06", // half way between two
		0x6b000000: "1.5474251e+26", 0x0f800000: "1.2621775e-29", // a nearer one is another single
	} {
		if got := num.Text(single(b)); got != want {
			t.Errorf("Text of %08x: %s, want %s", b, got, want)
		}
	}
}

// shortest returns the digits, and the power of ten of the first one, that
// stand for v, a number above 0.
func shortest(v float32) (string, int) {
	exact := new(big.Rat).SetFloat64(float64(v))
	top := int(math.Floor(math.Log10(float64(v))))
	if exact.Cmp(ten(top)) < 0 {
		top--
	} else if exact.Cmp(ten(top+1)) >= 0 {
		top++
	}
	for n := 1; ; n++ {
		if best := nearest(v, exact, top-n+1); best != nil {
			text := best.String()
			return strings.TrimRight(text, "0"), top - n + len(text)
		}
	}
}

func ten(n int) *big.Rat {
	power := new(big.Int).Exp(big.NewInt(10), big.NewInt(int64(max(n, -n))), nil)
	if n < 0 {
		return new(big.Rat).SetFrac(big.NewInt(1), power)
	}
	return new(big.Rat).SetInt(power)
}

// nearest returns the multiple of that power of ten that is nearest to exact
// among those of which v comes; nil, if there is none.
func nearest(v float32, exact *big.Rat, unit int) *big.Int {
	scaled := new(big.Rat).Quo(exact, ten(unit))
	low := new(big.Int).Quo(scaled.Num(), scaled.Denom())
	var best *big.Int
	var least *big.Rat
	for _, d := range []*big.Int{low, new(big.Int).Add(low, big.NewInt(1))} {
		value := new(big.Rat).SetInt(d)
		if back, _ := new(big.Rat).Mul(value, ten(unit)).Float32(); back != v {
			continue
		}
		off := value.Sub(value, scaled)
		off.Abs(off)
		if best == nil || off.Cmp(least) < 0 || off.Cmp(least) == 0 && d.Bit(0) == 0 {
			best, least = d, off
		}
	}
	return best
}

// written returns the digits of a text, and the power of ten of the first one.
func written(text string) (string, int) {
	mantissa, power, _ := strings.Cut(text, "e")
	e := 0
	if power != "" {
		for _, c := range power[1:] {
			e = e*10 + int(c-'0')
		}
		if power[0] == '-' {
			e = -e
		}
	}
	whole, part, _ := strings.Cut(mantissa, ".")
	digits := whole + part
	trimmed := strings.TrimLeft(digits, "0")
	return strings.TrimRight(trimmed, "0"), e + len(whole) - 1 - (len(digits) - len(trimmed))
}

func TestP12TextIsShortest(t *testing.T) {
	var list []float32
	for e := uint32(0); e < 255; e++ {
		for f := range uint32(4) {
			list = append(list, single(e<<23|f), single(e<<23|0x7fffff-f))
		}
	}
	m := mixer{}
	for range 2000 {
		list = append(list, single(m.next()%0x7f800000))
		list = append(list, single(0x49800000+m.next()%0x1000000)) // where many are half way between two
	}
	for _, v := range list {
		if v == 0 {
			continue
		}
		digits, power := shortest(v)
		got, at := written(num.Text(v))
		if got != digits || at != power {
			t.Errorf("Text of %08x: %s, want %s, at %d", math.Float32bits(v), num.Text(v), digits, power)
		}
		if num.Text(-v) != "-"+num.Text(v) {
			t.Errorf("Text of %v: %s", -v, num.Text(-v))
		}
	}
}

func TestP12Parse(t *testing.T) {
	for text, want := range map[string]uint32{
		"nan": nanBits, "inf": 0x7f800000, "-inf": 0xff800000,
		"0": 0, "-0": 0x80000000, "00": 0, "-000.000e-00": 0x80000000, "0e999": 0, "-0e999": 0x80000000, "0e-999": 0,
		"1": 0x3f800000, "-1": 0xbf800000, "007": 0x40e00000, "1.0": 0x3f800000, "1.50": 0x3fc00000, "0.1": 0x3dcccccd, "00.1000": 0x3dcccccd,
		"1e0": 0x3f800000, "1e+0": 0x3f800000, "1e-0": 0x3f800000, "1e1": 0x41200000, "1e01": 0x41200000, "1e001": 0x41200000, "1e+001": 0x41200000,
		"10e-1": 0x3f800000, "10e-001": 0x3f800000, "0.1e+1": 0x3f800000, "-2.5e2": 0xc37a0000,
		"16777217": 0x4b800000, "16777219": 0x4b800002, "16777217.0000001": 0x4b800001,
		"1.000000059604644775390625": 0x3f800000, "1.00000005960464477539062500000000000000001": 0x3f800001, "1.00000005960464477539062499999999999999999": 0x3f800000,
		"3.4028235e38": 0x7f7fffff, "3.4028235677973366e38": 0x7f7fffff, "3.4028235677973367e38": 0x7f800000, "340282356779733661637539395458142568447": 0x7f7fffff,
		"340282356779733661637539395458142568448": 0x7f800000, "-340282356779733661637539395458142568448": 0xff800000,
		"1e39": 0x7f800000, "-1e39": 0xff800000, "1e999": 0x7f800000, "-1e+999": 0xff800000,
		"1e-45": 1, "1.4e-45": 1, "2e-45": 1, "3e-45": 2, "7.1e-46": 1, "7e-46": 0, "-7e-46": 0x80000000, "1e-999": 0, "-1e-999": 0x80000000,
		"7.00649232162408535461864791644958e-46": 0, "7.00649232162408535461864791644959e-46": 1,
		strings.Repeat("0", 99) + "1": 0x3f800000, "0." + strings.Repeat("0", 93) + "1e095": 0x41200000, strings.Repeat("9", 100): 0x7f800000,
		"1" + strings.Repeat("0", 94) + "e-095": 0x3dcccccd,
	} {
		v, e := num.Parse(text)
		if e != api.OK || math.Float32bits(v) != want {
			t.Errorf("Parse of %q: %08x %d, want %08x", text, math.Float32bits(v), e, want)
		}
	}
}

func TestP12ParseErrors(t *testing.T) {
	for _, text := range []string{
		"", "-", "+1", "+0", "--1", "1-", ".", ".5", "-.5", "1.", "-1.", "1.e5", ".e5", "1..5", "1.5.2", "1.-5",
		"e", "e5", "-e5", "1e", "1e+", "1e-", "1e+-1", "1e--1", "1e1000", "1e0001", "1e+0001", "1e1.5", "1e5e5", "1e 5", "1E5", "1E+5",
		" 1", "1 ", "1 2", "\t1", "1\n", "1\x00", "\x001", "1,5", "1_000", "1e1_0", "0x1", "0x1p3", "1p3", "0b1", "1f", "1a",
		"NaN", "NAN", "-nan", "+nan", "nan ", " nan", "nann", "na", "Inf", "INF", "+inf", "-Inf", "inf ", "infinity", "-infinity", "--inf",
		"\xff", "1\xff", "\uff11", "\u0661", "\u22121",
		strings.Repeat("0", 100) + "1", strings.Repeat("1", 101), "0." + strings.Repeat("0", 99), strings.Repeat("9", 5000),
	} {
		if v, e := num.Parse(text); math.Float32bits(v) != 0 || e != api.ErrSyntax {
			t.Errorf("Parse of %q: %v %d", text, v, e)
		}
	}
}

func TestP12ParseOfText(t *testing.T) {
	for _, v := range samples(20000) {
		got, e := num.Parse(num.Text(v))
		if e != api.OK {
			t.Errorf("Parse of %s: error %d", num.Text(v), e)
		}
		check(t, got, v, "Parse of", num.Text(v))
	}
}

func TestP13Hex(t *testing.T) {
	for b, want := range map[uint32]string{
		0: "00000000", 0x80000000: "80000000", 1: "00000001", 0x3f800000: "3f800000", 0x12345678: "12345678", 0x0abcdef0: "0abcdef0",
		0x7f800000: "7f800000", 0xff800000: "ff800000", 0x7fc00000: "7fc00000", 0xffc00000: "7fc00000", 0x7f800001: "7fc00000", 0xffffffff: "7fc00000",
	} {
		if got := num.Hex(single(b)); got != want {
			t.Errorf("Hex of %08x: %s", b, got)
		}
	}
	for _, v := range samples(2000) {
		got, e := num.ParseHex(num.Hex(v))
		if e != api.OK {
			t.Errorf("ParseHex of %s: error %d", num.Hex(v), e)
		}
		check(t, got, v, "ParseHex of", num.Hex(v))
	}
}

func TestP13ParseHex(t *testing.T) {
	for text, want := range map[string]uint32{
		"00000000": 0, "80000000": 0x80000000, "3f800000": 0x3f800000, "0abcdef9": 0x0abcdef9, "7f800000": 0x7f800000, "ff800000": 0xff800000,
		"7fc00000": nanBits, "00000001": 1, "ff7fffff": 0xff7fffff,
	} {
		v, e := num.ParseHex(text)
		if e != api.OK || math.Float32bits(v) != want {
			t.Errorf("ParseHex of %q: %08x %d", text, math.Float32bits(v), e)
		}
	}
	for text, want := range map[string]api.Errno{
		"": api.ErrSyntax, "3f80000": api.ErrSyntax, "3f8000000": api.ErrSyntax, "03f800000": api.ErrSyntax, "3F800000": api.ErrSyntax, "7FC00000": api.ErrSyntax,
		"3f80000g": api.ErrSyntax, "g3f80000": api.ErrSyntax, "0x3f8000": api.ErrSyntax, "+3f80000": api.ErrSyntax, "-3f80000": api.ErrSyntax,
		" 3f80000": api.ErrSyntax, "3f80000 ": api.ErrSyntax, "3f80_000": api.ErrSyntax, "3f80000\n": api.ErrSyntax, "3f80000\xff": api.ErrSyntax,
		"3f8000/0": api.ErrSyntax, "3f8000:0": api.ErrSyntax, "3f8000`0": api.ErrSyntax, "7fc0000g": api.ErrSyntax, "7fc000010": api.ErrSyntax, "7fffffff\n": api.ErrSyntax,
		"7f800001": api.ErrForm, "7fc00001": api.ErrForm, "7fffffff": api.ErrForm, "ff800001": api.ErrForm, "ffc00000": api.ErrForm, "ffffffff": api.ErrForm,
	} {
		if v, e := num.ParseHex(text); math.Float32bits(v) != 0 || e != want {
			t.Errorf("ParseHex of %q: %v %d, want %d", text, v, e, want)
		}
	}
}
