package conform

import (
	"strconv"

	"dyehouse/api"
)

// Seconds of a minute, minutes of an hour, and hours of a day.
const (
	seconds = 60
	minutes = 60
	hours   = 24
)

// What RateDrop leaves out: so many numbers of a minute, but none of each tenth one.
const (
	dropped  = 2
	keptEach = 10
)

// The digits of a code's numbers, and the bytes of its text.
const (
	codeDigits = 2
	codeBytes  = 11
)

// ofSecond are the frames that are counted in a second, if there is such a rate.
func ofSecond(rate int) (int, bool) {
	switch rate {
	case 24, 25, 30, 48, 50, 60:
		return rate, true
	case api.RateDrop:
		return 30, true
	}
	return 0, false
}

// leftOut is how many codes are left out in the minutes of a day up to this one.
func leftOut(rate, minute int) int {
	if rate != api.RateDrop {
		return 0
	}
	return dropped * (minute - minute/keptEach)
}

// ofDay is how many codes a day has, at a rate that there is.
func ofDay(rate int) int {
	each, _ := ofSecond(rate)
	return hours*minutes*seconds*each - leftOut(rate, hours*minutes)
}

// checkCode is the error of a code, at a rate with so many frames of a second.
func checkCode(rate, each int, c api.Code) api.Errno {
	switch {
	case !isWithin(c.H, 0, hours-1), !isWithin(c.M, 0, minutes-1), !isWithin(c.S, 0, seconds-1), !isWithin(c.F, 0, each-1):
		return api.ErrRange
	case rate == api.RateDrop && c.M%keptEach != 0 && c.S == 0 && c.F < dropped:
		return api.ErrPlace
	}
	return api.OK
}

// Frames is described in doc/10-conform.md.
func Frames(rate int, c api.Code) (int, api.Errno) {
	each, known := ofSecond(rate)
	if !known {
		return 0, api.ErrKind
	}
	if e := checkCode(rate, each, c); e != api.OK {
		return 0, e
	}
	minute := c.H*minutes + c.M
	return (minute*seconds+c.S)*each + c.F - leftOut(rate, minute), api.OK
}

// CodeOf is described in doc/10-conform.md.
func CodeOf(rate, n int) (api.Code, api.Errno) {
	each, known := ofSecond(rate)
	if !known {
		return api.Code{}, api.ErrKind
	}
	day := ofDay(rate)
	// The remainder of a negative number is not positive.
	n = (n%day + day) % day
	// At other rates nothing is left out, whatever the minute.
	n += leftOut(rate, dropMinute(each, n))
	second := n / each
	minute := second / seconds
	return api.Code{H: minute / minutes, M: minute % minutes, S: second % seconds, F: n % each}, api.OK
}

// dropMinute is the minute of the day in which the code of RateDrop stands that has
// n before it.
func dropMinute(each, n int) int {
	short := seconds*each - dropped
	ten := keptEach*short + dropped
	// The first minute of ten has more codes than the others; without them, it is as
	// long. (A quotient is rounded towards 0.)
	return n/ten*keptEach + (n%ten-dropped)/short
}

// PrintCode is described in doc/10-conform.md.
func PrintCode(rate int, c api.Code) (string, api.Errno) {
	if _, e := Frames(rate, c); e != api.OK {
		return "", e
	}
	text := padded(c.H, codeDigits)
	for i, n := range []int{c.M, c.S, c.F} {
		text += separators(rate)[i] + padded(n, codeDigits)
	}
	return text, api.OK
}

// separators stand between the numbers of a code.
func separators(rate int) [3]string {
	if rate == api.RateDrop {
		return [3]string{":", ":", ";"}
	}
	return [3]string{":", ":", ":"}
}

// ParseCode is described in doc/10-conform.md.
func ParseCode(rate int, text string) (api.Code, api.Errno) {
	if _, known := ofSecond(rate); !known {
		return api.Code{}, api.ErrKind
	}
	c, good := readCode(rate, text)
	if !good {
		return api.Code{}, api.ErrSyntax
	}
	if _, e := Frames(rate, c); e != api.OK {
		return api.Code{}, e
	}
	return c, api.OK
}

// readCode reads the numbers of a code, and says whether it has its form.
func readCode(rate int, text string) (api.Code, bool) {
	if len(text) != codeBytes {
		return api.Code{}, false
	}
	for i, separator := range separators(rate) {
		at := codeDigits + (codeDigits+1)*i
		if text[at:at+1] != separator {
			return api.Code{}, false
		}
	}
	var c api.Code
	for i, place := range []*int{&c.H, &c.M, &c.S, &c.F} {
		at := (codeDigits + 1) * i
		n, good := readDigits(text[at:at+codeDigits], codeDigits)
		if !good {
			return api.Code{}, false
		}
		*place = n
	}
	return c, true
}

// readDigits reads a number that was written with at least so many digits.
func readDigits(word string, digits int) (int, bool) {
	n, e := strconv.Atoi(word)
	// Written again, it is the same if it has just the zeros that it needs.
	return n, e == nil && n >= 0 && padded(n, digits) == word
}
