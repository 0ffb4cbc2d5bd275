package cube

import (
	"strconv"
	"strings"

	"dyehouse/api"
	"dyehouse/num"
)

// The first words of the first two lines of a text, how many lines these are,
// and the digits that an integer has at most.
const (
	sizeWord   = "size "
	domainWord = "domain "
	headLines  = 2
	maxDigits  = 9
)

// Print is described in doc/05-cube.md.
func Print(c api.Cube) (string, api.Errno) {
	if e := Check(c); e != api.OK {
		return "", e
	}
	var text strings.Builder
	text.WriteString(sizeWord + strconv.Itoa(c.Size) + "\n")
	text.WriteString(domainWord + num.Text(c.Low) + " " + num.Text(c.High) + "\n")
	for at := range places(c.Size) {
		v := entry(c, at)
		text.WriteString(num.Text(v[0]) + " " + num.Text(v[1]) + " " + num.Text(v[2]) + "\n")
	}
	if text.Len() > api.MaxText {
		return "", api.ErrLarge
	}
	return text.String(), api.OK
}

// Parse is described in doc/05-cube.md.
func Parse(text string) (api.Cube, int, api.Errno) {
	if len(text) > api.MaxText {
		return api.Cube{}, 0, api.ErrLarge
	}
	var c api.Cube
	for n := 0; text != "" || n < linesOf(c.Size); n++ {
		line, rest, ended := strings.Cut(text, "\n")
		if !ended || !readLine(&c, n, line) {
			return api.Cube{}, n, api.ErrSyntax
		}
		text = rest
	}
	if e := Check(c); e != api.OK {
		return api.Cube{}, 0, e
	}
	return c, 0, api.OK
}

// linesOf is how many lines a cube of that size has at least.
func linesOf(size int) int {
	if !isSize(size) {
		return headLines
	}
	return headLines + size*size*size
}

// readLine reads the line with the number n into c, and says whether it has its
// form.
func readLine(c *api.Cube, n int, line string) bool {
	switch {
	case n == 0:
		return readSize(c, line)
	case n == 1:
		return readDomain(c, line)
	case !isSize(c.Size):
		return true // what has to stand here hangs on the size, which Check refuses
	case n >= linesOf(c.Size):
		return false
	}
	v, good := readNumbers(line, colours)
	c.V = append(c.V, v...)
	return good
}

func readSize(c *api.Cube, line string) bool {
	word, found := strings.CutPrefix(line, sizeWord)
	size, e := strconv.Atoi(word)
	// Written again, a number is the same if nothing in it was superfluous.
	if !found || e != nil || strconv.Itoa(size) != word || len(strings.TrimPrefix(word, "-")) > maxDigits {
		return false
	}
	c.Size = size
	return true
}

func readDomain(c *api.Cube, line string) bool {
	words, found := strings.CutPrefix(line, domainWord)
	ends, good := readNumbers(words, 2)
	if !found || !good {
		return false
	}
	c.Low, c.High = ends[0], ends[1]
	return true
}

// readNumbers reads a line of that many numbers.
func readNumbers(line string, many int) ([]float32, bool) {
	words := strings.Split(line, " ")
	if len(words) != many {
		return nil, false
	}
	l := make([]float32, many)
	for i, word := range words {
		v, e := num.Parse(word)
		if e != api.OK {
			return nil, false
		}
		l[i] = v
	}
	return l, true
}
