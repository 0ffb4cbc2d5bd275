package grade

import (
	"slices"
	"strconv"
	"strings"

	"dyehouse/api"
	"dyehouse/num"
)

const noCurve = "-" // stands for a curve without points

// gradeWords are the words of grades, by their kinds.
func gradeWords() []string {
	return []string{
		api.GradeWheels:   "wheels",
		api.GradeList:     "list",
		api.GradeCurves:   "curves",
		api.GradeMixer:    "mixer",
		api.GradeContrast: "contrast",
		api.GradePrinter:  "printer",
	}
}

// curveWords are the words of curves, by their kinds.
func curveWords() []string {
	return []string{api.CurveLinear: "linear", api.CurveSmooth: "smooth"}
}

// Print is described in doc/04-grade.md.
func Print(l []api.Grade) (string, api.Errno) {
	if e := checkAll(l); e != api.OK {
		return "", e
	}
	var text strings.Builder
	for _, g := range l {
		text.WriteString(strings.Join(wordsOf(g), " ") + "\n")
	}
	return text.String(), api.OK
}

// wordsOf are the words of the line of a grade that has no error.
func wordsOf(g api.Grade) []string {
	words := []string{gradeWords()[g.Kind]}
	switch g.Kind {
	case api.GradeCurves:
		for _, c := range g.Curves {
			words = append(words, wordsOfCurve(c)...)
		}
	case api.GradePrinter:
		for _, n := range g.Points {
			words = append(words, strconv.Itoa(n))
		}
	default:
		for _, v := range singlesOf(g.Kind, &g) {
			words = append(words, num.Text(*v))
		}
	}
	return words
}

// wordsOfCurve are the words for one of the four curves.
func wordsOfCurve(c api.Curve) []string {
	if !hasPoints(c) {
		return []string{noCurve}
	}
	words := []string{curveWords()[c.Kind], strconv.Itoa(len(c.X))}
	for i, x := range c.X {
		words = append(words, num.Text(x), num.Text(c.Y[i]))
	}
	return words
}

// Parse is described in doc/04-grade.md.
func Parse(text string) ([]api.Grade, int, api.Errno) {
	if len(text) > api.MaxText {
		return nil, 0, api.ErrLarge
	}
	var l []api.Grade
	for i, line := range strings.Split(text, "\n") {
		line, _, _ = strings.Cut(line, "#")
		words := strings.FieldsFunc(line, isBlank)
		if len(words) == 0 {
			continue
		}
		g, good := readGrade(words)
		if !good {
			return nil, i, api.ErrSyntax
		}
		l = append(l, g)
	}
	if e := checkAll(l); e != api.OK {
		return nil, 0, e
	}
	return l, 0, api.OK
}

func isBlank(r rune) bool { return r == ' ' || r == '\t' }

// readGrade reads the words of a line, and says whether they have their form.
func readGrade(words []string) (api.Grade, bool) {
	g := api.Grade{Kind: slices.Index(gradeWords(), words[0])}
	words = words[1:]
	good := false
	switch g.Kind {
	case -1:
	case api.GradeCurves:
		g.Curves, good = readCurves(words)
	case api.GradePrinter:
		g.Points, good = readPoints(words)
	default:
		good = readSingles(singlesOf(g.Kind, &g), words)
	}
	return g, good
}

// readSingles reads words that are just as many singles.
func readSingles(l []*float32, words []string) bool {
	if len(words) != len(l) {
		return false
	}
	for i, word := range words {
		v, e := num.Parse(word)
		if e != api.OK {
			return false
		}
		*l[i] = v
	}
	return true
}

// readInt reads an integer without superfluous zeros.
func readInt(word string) (int, bool) {
	n, e := strconv.Atoi(word)
	// Written again, it is the same if nothing in it was superfluous.
	return n, e == nil && strconv.Itoa(n) == word
}

// readPoints reads words that are three printer points.
func readPoints(words []string) ([3]int, bool) {
	var points [3]int
	if len(words) != len(points) {
		return points, false
	}
	for i, word := range words {
		n, good := readInt(word)
		if !good {
			return points, false
		}
		points[i] = n
	}
	return points, true
}

// readCurves reads words that are the four curves.
func readCurves(words []string) ([4]api.Curve, bool) {
	var l [4]api.Curve
	for i := range l {
		c, rest, good := readCurve(words)
		if !good {
			return l, false
		}
		l[i], words = c, rest
	}
	return l, len(words) == 0
}

// readCurve reads the curve that words begin with, and returns also what stands
// behind it.
func readCurve(words []string) (api.Curve, []string, bool) {
	if len(words) > 0 && words[0] == noCurve {
		return api.Curve{}, words[1:], true
	}
	if len(words) < 2 {
		return api.Curve{}, nil, false
	}
	kind := slices.Index(curveWords(), words[0])
	n, good := readInt(words[1])
	words = words[2:]
	if kind < 0 || !good || n < 1 || n > len(words)/2 {
		return api.Curve{}, nil, false
	}
	c := api.Curve{Kind: kind, X: make([]float32, n), Y: make([]float32, n)}
	var places []*float32
	for i := range n {
		places = append(places, &c.X[i], &c.Y[i])
	}
	good = readSingles(places, words[:2*n])
	return c, words[2*n:], good
}
