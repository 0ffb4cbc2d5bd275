package scope

import (
	"slices"
	"strings"

	"dyehouse/api"
)

// The greatest count that is drawn, and the greatest number of lines.
const (
	maxCount  = 1 << 24
	maxHeight = 64
)

// checkSketch is the error of a drawing.
func checkSketch(l []int, height int) api.Errno {
	switch {
	case len(l) == 0:
		return api.ErrEmpty
	case len(l) > maxBins:
		return api.ErrLarge
	case !isWithin(slices.Min(l), 0, maxCount), !isWithin(slices.Max(l), 0, maxCount), !isWithin(height, 1, maxHeight):
		return api.ErrRange
	}
	return api.OK
}

// Sketch is described in doc/08-scope.md.
func Sketch(c api.Counts, height int) (string, api.Errno) {
	if e := checkSketch(c.Bins, height); e != api.OK {
		return "", e
	}
	greatest := slices.Max(c.Bins)
	var text strings.Builder
	for line := height; line >= 1; line-- {
		row := make([]byte, len(c.Bins))
		for i, n := range c.Bins {
			row[i] = ' '
			if n > 0 && n*height >= line*greatest {
				row[i] = '#'
			}
		}
		text.WriteString(strings.TrimRight(string(row), " ") + "\n")
	}
	return text.String(), api.OK
}
