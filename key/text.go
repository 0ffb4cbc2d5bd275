package key

import (
	"slices"
	"strconv"
	"strings"

	"dyehouse/api"
	"dyehouse/num"
)

// The words for windows that cover what is within them, and what is outside, and
// how many words stand ahead of the points.
const (
	inWord    = "in"
	outWord   = "out"
	headWords = 7
)

// windowWords are the words of windows, by their kinds.
func windowWords() []string {
	return []string{
		api.WindowBox:     "box",
		api.WindowEllipse: "ellipse",
		api.WindowPolygon: "polygon",
	}
}

// Print is described in doc/06-key.md.
func Print(w api.Window) (string, api.Errno) {
	if e := CheckWindow(w); e != api.OK {
		return "", e
	}
	words := []string{windowWords()[w.Kind]}
	for _, v := range singles(&w) {
		words = append(words, num.Text(*v))
	}
	if w.Out {
		words = append(words, outWord)
	} else {
		words = append(words, inWord)
	}
	for _, p := range w.Points {
		words = append(words, strconv.Itoa(p.X), strconv.Itoa(p.Y))
	}
	return strings.Join(words, " "), api.OK
}

// Parse is described in doc/06-key.md.
func Parse(text string) (api.Window, api.Errno) {
	w, good := readWindow(strings.Split(text, " "))
	if !good {
		return api.Window{}, api.ErrSyntax
	}
	if e := CheckWindow(w); e != api.OK {
		return api.Window{}, e
	}
	return w, api.OK
}

// readWindow reads the words of a window, and says whether they have their form.
func readWindow(words []string) (api.Window, bool) {
	if len(words) < headWords {
		return api.Window{}, false
	}
	side := words[headWords-1]
	w := api.Window{Kind: slices.Index(windowWords(), words[0]), Out: side == outWord}
	// There is no word for the kind 0, which an empty one would be found at.
	if w.Kind < api.WindowBox || side != inWord && side != outWord {
		return api.Window{}, false
	}
	for i, v := range singles(&w) {
		value, e := num.Parse(words[1+i])
		if e != api.OK {
			return api.Window{}, false
		}
		*v = value
	}
	points, good := readPoints(words[headWords:])
	w.Points = points
	return w, good
}

// readPoints reads words that are coordinates of points.
func readPoints(words []string) ([]api.Point, bool) {
	var points []api.Point
	for ; len(words) >= 2; words = words[2:] {
		x, goodX := readInt(words[0])
		y, goodY := readInt(words[1])
		if !goodX || !goodY {
			return nil, false
		}
		points = append(points, api.Point{X: x, Y: y})
	}
	return points, len(words) == 0
}

// readInt reads an integer without superfluous zeros.
func readInt(word string) (int, bool) {
	n, e := strconv.Atoi(word)
	// Written again, it is the same if nothing in it was superfluous.
	return n, e == nil && strconv.Itoa(n) == word
}
