package num

import (
	"math"
	"strconv"
	"strings"

	"dyehouse/api"
)

const (
	maxNumber = 100 // bytes of the text of a number
	hexDigits = "0123456789abcdef"
)

// Text is described in doc/01-num.md.
func Text(v float32) string {
	switch {
	case v != v:
		return "nan"
	case v > math.MaxFloat32:
		return "inf"
	case v < -math.MaxFloat32:
		return "-inf"
	}
	return strconv.FormatFloat(float64(v), 'g', -1, 32)
}

// Parse is described in doc/01-num.md.
func Parse(text string) (float32, api.Errno) {
	switch text {
	case "nan":
		return FromBits(theNaN), api.OK
	case "inf":
		return float32(math.Inf(1)), api.OK
	case "-inf":
		return float32(math.Inf(-1)), api.OK
	}
	if len(text) > maxNumber || !isDecimal(text) {
		return 0, api.ErrSyntax
	}
	// The one error that is left comes with the infinity that is asked for.
	v, _ := strconv.ParseFloat(text, 32)
	return float32(v), api.OK
}

// isDecimal says whether Parse reads text as a decimal number.
func isDecimal(text string) bool {
	n, rest := digits(strings.TrimPrefix(text, "-"))
	if n == 0 {
		return false
	}
	if after, found := strings.CutPrefix(rest, "."); found {
		n, rest = digits(after)
		if n == 0 {
			return false
		}
	}
	if after, found := strings.CutPrefix(rest, "e"); found {
		n, rest = digits(unsigned(after))
		if n < 1 || n > 3 {
			return false
		}
	}
	return rest == ""
}

// unsigned returns text without the sign that it may begin with.
func unsigned(text string) string {
	if text != "" && (text[0] == '+' || text[0] == '-') {
		return text[1:]
	}
	return text
}

// digits returns how many digits text begins with, and what stands behind them.
func digits(text string) (int, string) {
	n := 0
	for n < len(text) && text[n] >= '0' && text[n] <= '9' {
		n++
	}
	return n, text[n:]
}

// Hex is described in doc/01-num.md.
func Hex(v float32) string {
	b := Bits(v)
	var text [8]byte
	for i := range text {
		text[i] = hexDigits[b>>(28-4*i)&15]
	}
	return string(text[:])
}

// ParseHex is described in doc/01-num.md.
func ParseHex(text string) (float32, api.Errno) {
	if len(text) != 8 {
		return 0, api.ErrSyntax
	}
	b := uint32(0)
	for i := range len(text) {
		d := strings.IndexByte(hexDigits, text[i])
		if d < 0 {
			return 0, api.ErrSyntax
		}
		b = b<<4 | uint32(d)
	}
	v := FromBits(b)
	if Bits(v) != b {
		return 0, api.ErrForm
	}
	return v, api.OK
}
