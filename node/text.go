package node

import (
	"slices"
	"strconv"
	"strings"

	"dyehouse/api"
	"dyehouse/num"
)

// Words of a step ahead of what goes into it, words of the last line, and the
// digits of the longest integers.
const (
	headWords = 2
	endWords  = 2
	maxDigits = 10
)

// Print is described in doc/09-node.md.
func Print(p api.Program) (string, api.Errno) {
	if e := CheckProgram(p); e != api.OK {
		return "", e
	}
	var text strings.Builder
	for _, s := range p.Steps {
		words := append([]string{s.Name, s.Op}, s.In...)
		for _, n := range s.Ints {
			words = append(words, strconv.Itoa(n))
		}
		for _, v := range s.Reals {
			words = append(words, num.Text(v))
		}
		text.WriteString(strings.Join(words, " ") + "\n")
	}
	text.WriteString(outWord + " " + p.Out + "\n")
	return text.String(), api.OK
}

// Parse is described in doc/09-node.md.
func Parse(text string) (api.Program, int, api.Errno) {
	if len(text) > api.MaxText {
		return api.Program{}, 0, api.ErrLarge
	}
	p, line, good := readProgram(text)
	if !good {
		return api.Program{}, line, api.ErrSyntax
	}
	if e := CheckProgram(p); e != api.OK {
		return api.Program{}, 0, e
	}
	return p, 0, api.OK
}

// readProgram reads a text; if it has not its form, it returns the number of the
// first line that is wrong, or missing.
func readProgram(text string) (api.Program, int, bool) {
	var p api.Program
	byName := operations()
	number := 0
	for ; text != ""; number++ {
		line, rest, whole := strings.Cut(text, "\n")
		words := strings.Split(line, " ")
		if !whole || len(words) < headWords || slices.Contains(words, "") {
			return api.Program{}, number, false
		}
		if words[0] == outWord {
			p.Out = words[1]
			if len(words) != endWords {
				return api.Program{}, number, false
			}
			return p, number + 1, rest == ""
		}
		s, good := readStep(words, byName)
		if !good {
			return api.Program{}, number, false
		}
		p.Steps = append(p.Steps, s)
		text = rest
	}
	return api.Program{}, number, false
}

// readStep reads the words of a line, and says whether they have their form.
func readStep(words []string, byName map[string]operation) (api.Step, bool) {
	s := api.Step{Name: words[0], Op: words[1]}
	o, found := byName[s.Op]
	if !found {
		return s, true // CheckProgram refuses it, whatever stands behind it
	}
	words = words[headWords:]
	if len(words) != len(o.in)+len(o.ints)+o.reals {
		return api.Step{}, false
	}
	s.In = slices.Clone(words[:len(o.in)])
	words = words[len(o.in):]
	for _, word := range words[:len(o.ints)] {
		n, good := readInt(word)
		if !good {
			return api.Step{}, false
		}
		s.Ints = append(s.Ints, n)
	}
	for _, word := range words[len(o.ints):] {
		v, e := num.Parse(word)
		if e != api.OK {
			return api.Step{}, false
		}
		s.Reals = append(s.Reals, v)
	}
	return s, true
}

// readInt reads an integer of few digits without superfluous zeros.
func readInt(word string) (int, bool) {
	n, e := strconv.Atoi(word)
	// Written again, it is the same if nothing in it was superfluous.
	good := e == nil && strconv.Itoa(n) == word && len(strings.TrimPrefix(word, "-")) <= maxDigits
	return n, good
}
