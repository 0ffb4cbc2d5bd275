package finish

import (
	"slices"
	"strconv"
	"strings"

	"dyehouse/api"
	"dyehouse/frame"
)

// The first and the third line of a picture, and the depth of its levels.
const (
	firstLine    = "P6\n"
	thirdLine    = "255\n"
	pictureDepth = 8
)

// Picture is described in doc/07-finish.md.
func Picture(f api.Frame, how int, seed uint32) (string, api.Errno) {
	l, e := Levels(f, how, seed, pictureDepth)
	if e != api.OK {
		return "", e
	}
	var text strings.Builder
	text.WriteString(firstLine + strconv.Itoa(f.W) + " " + strconv.Itoa(f.H) + "\n" + thirdLine)
	for p := range slices.Chunk(l, channels) {
		for _, n := range p[:colours] {
			text.WriteByte(byte(n))
		}
	}
	return text.String(), api.OK
}

// ReadPicture is described in doc/07-finish.md.
func ReadPicture(text string) (api.Frame, api.Errno) {
	if len(text) > api.MaxText {
		return api.Frame{}, api.ErrLarge
	}
	r, bytes, good := readHead(text)
	if !good || len(bytes) != colours*r.W*r.H {
		return api.Frame{}, api.ErrSyntax
	}
	if e := frame.CheckRegion(r); e != api.OK {
		return api.Frame{}, e
	}
	l := make([]int, 0, channels*r.W*r.H)
	for p := range slices.Chunk([]byte(bytes), colours) {
		for _, b := range p {
			l = append(l, int(b))
		}
		l = append(l, highest(pictureDepth))
	}
	return Frame(r, l, pictureDepth)
}

// readHead reads the lines of a picture. It returns its region and what stands
// behind them, and says whether they have their form.
func readHead(text string) (api.Region, string, bool) {
	rest, first := strings.CutPrefix(text, firstLine)
	line, rest, _ := strings.Cut(rest, "\n")
	bytes, third := strings.CutPrefix(rest, thirdLine)
	width, height, _ := strings.Cut(line, " ")
	w, goodW := readSide(width)
	h, goodH := readSide(height)
	return api.Region{W: w, H: h}, bytes, first && third && goodW && goodH
}

// readSide reads a side without superfluous zeros, and says whether it is one.
func readSide(word string) (int, bool) {
	n, e := strconv.Atoi(word)
	// Written again, it is the same if nothing in it was superfluous.
	return n, e == nil && strconv.Itoa(n) == word && n >= 1 && n <= api.MaxSide
}
