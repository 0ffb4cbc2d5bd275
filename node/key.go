package node

import (
	"strconv"
	"strings"

	"dyehouse/api"
	"dyehouse/num"
)

// digest has the two numbers that become a digest.
type digest struct{ first, second uint32 }

// take takes a number in, with its place.
func (d *digest) take(n, place int) {
	d.first = num.Hash(d.first, n, place, 0)
	d.second = num.Hash(d.second, n, int(d.first), 1)
}

// Digest is described in doc/09-node.md.
func Digest(text string) string {
	d := digest{0x243f6a88, 0x85a308d3}
	for i := range len(text) {
		d.take(int(text[i]), i)
	}
	d.take(len(text), -1)
	return digits(d.first) + digits(d.second)
}

// digits are eight of base 16.
func digits(n uint32) string {
	text := strconv.FormatUint(uint64(n), 16)
	return strings.Repeat("0", 8-len(text)) + text
}

// thing is what a node names: by its operation and its first integer.
type thing struct {
	op string
	k  int
}

// digests are those of things that were asked for, each made once.
type digests map[thing]string

// of is the digest of what a node names.
func (l digests) of(s scene, o operation, n api.Node) string {
	t := thing{n.Op, n.Ints[0]}
	d, done := l[t]
	if !done {
		d = Digest(o.named.text(s, t.k))
		l[t] = d
	}
	return d
}

// Keys is described in doc/09-node.md.
func Keys(g api.Graph, l api.Library, s []api.Frame, number int) ([]string, api.Errno) {
	where := scene{l, s, number}
	p, e := prepare(g, where)
	if e != api.OK {
		return nil, e
	}
	var keys []string
	named := digests{}
	for i, n := range p.Nodes {
		o := p.ops[i]
		words := []string{n.Op}
		for _, from := range n.In {
			words = append(words, keys[from])
		}
		for _, k := range n.Ints {
			words = append(words, strconv.Itoa(k))
		}
		for _, v := range n.Reals {
			words = append(words, num.Hex(v))
		}
		if o.named.text != nil {
			words = append(words, named.of(where, o, n))
		}
		if o.timed {
			words = append(words, strconv.Itoa(number))
		}
		keys = append(keys, Digest(strings.Join(words, " ")))
	}
	return keys, api.OK
}

// Changed is described in doc/09-node.md.
func Changed(a, b []string) ([]int, api.Errno) {
	if len(a) != len(b) {
		return nil, api.ErrForm
	}
	var changed []int
	for i, k := range a {
		if k != b[i] {
			changed = append(changed, i)
		}
	}
	return changed, api.OK
}
