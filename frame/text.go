package frame

import (
	"strconv"
	"strings"

	"dyehouse/api"
	"dyehouse/num"
)

const (
	heading = "frame" // the first word of the text of a frame
	bar     = "|"     // between two pixels
)

// Print is described in doc/02-frame.md.
func Print(f api.Frame) (string, api.Errno) {
	if e := Check(f); e != api.OK {
		return "", e
	}
	var text strings.Builder
	text.WriteString(heading)
	for _, n := range [...]int{f.X, f.Y, f.W, f.H} {
		text.WriteString(" " + strconv.Itoa(n))
	}
	text.WriteString("\n")
	for y := f.Y; y < f.Y+f.H; y++ {
		for i, v := range span(f, f.X, y, f.W) {
			text.WriteString(gap(i) + num.Hex(v))
		}
		text.WriteString("\n")
	}
	return text.String(), api.OK
}

// gap is what stands ahead of a single with that index in its row.
func gap(i int) string {
	switch {
	case i == 0:
		return ""
	case i%channels == 0:
		return " " + bar + " "
	}
	return " "
}

// Parse is described in doc/02-frame.md.
func Parse(text string) (api.Frame, int, api.Errno) {
	if len(text) > api.MaxText {
		return api.Frame{}, 0, api.ErrLarge
	}
	line, rest, ended := strings.Cut(text, "\n")
	r, good := parseRegion(line)
	if !good || !ended {
		return api.Frame{}, 0, api.ErrSyntax
	}
	if e := CheckRegion(r); e != api.OK {
		return api.Frame{}, 0, e
	}
	f := api.Frame{Region: r}
	for row := range r.H {
		line, rest, ended = strings.Cut(rest, "\n")
		if !ended {
			return api.Frame{}, row + 1, api.ErrSyntax
		}
		v, e := parseRow(line, r.W)
		if e != api.OK {
			return api.Frame{}, row + 1, e
		}
		f.V = append(f.V, v...)
	}
	if rest != "" {
		return api.Frame{}, r.H + 1, api.ErrSyntax
	}
	return f, 0, api.OK
}

// parseRegion reads the first line, and says whether it has its form.
func parseRegion(line string) (api.Region, bool) {
	words := strings.Split(line, " ")
	if len(words) != 5 || words[0] != heading {
		return api.Region{}, false
	}
	var n [4]int
	for i, word := range words[1:] {
		value, e := strconv.Atoi(word)
		// Written again, a number is the same if nothing in it was superfluous.
		if e != nil || strconv.Itoa(value) != word {
			return api.Region{}, false
		}
		n[i] = value
	}
	return api.Region{X: n[0], Y: n[1], W: n[2], H: n[3]}, true
}

// parseRow reads a line of w pixels. All of its form comes before any NaN in it.
func parseRow(line string, w int) ([]float32, api.Errno) {
	const words = channels + 1 // of a pixel and the bar behind it
	list := strings.Split(line, " ")
	if len(list) != words*w-1 {
		return nil, api.ErrSyntax
	}
	v := make([]float32, 0, channels*w)
	wrong := api.OK
	for i, word := range list {
		if i%words == channels {
			if word != bar {
				return nil, api.ErrSyntax
			}
			continue
		}
		value, e := num.ParseHex(word)
		switch e {
		case api.OK:
			v = append(v, value)
		case api.ErrSyntax:
			return nil, e
		default:
			wrong = e
		}
	}
	if wrong != api.OK {
		return nil, wrong
	}
	return v, api.OK
}
