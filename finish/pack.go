package finish

import (
	"slices"

	"dyehouse/api"
)

const (
	maxLevels = channels * api.MaxPixels
	byteBits  = 8
)

// packing says how many levels of a depth stand in how many bytes: from the
// highest bits on, and what is left are bits that are 0.
type packing struct{ depth, levels, bytes int }

// packingOf returns the packing of a depth, and whether there is one.
func packingOf(depth int) (packing, bool) {
	switch depth {
	case 8:
		return packing{depth, 1, 1}, true
	case 10:
		return packing{depth, 3, 4}, true
	case 16:
		return packing{depth, 1, 2}, true
	}
	return packing{}, false
}

// shift is how many bits are behind a level.
func (p packing) shift(level int) int { return byteBits*p.bytes - p.depth*(level+1) }

// write returns the bytes of levels that are right.
func (p packing) write(l []int) string {
	var text []byte
	for group := range slices.Chunk(l, p.levels) {
		bits := 0
		for i, n := range group {
			bits |= n << p.shift(i)
		}
		for i := p.bytes - 1; i >= 0; i-- {
			text = append(text, byte(bits>>(byteBits*i)))
		}
	}
	return string(text)
}

// read returns all levels of whole groups of bytes, and those that are missing in
// the last one.
func (p packing) read(text string) []int {
	var l []int
	for group := range slices.Chunk([]byte(text), p.bytes) {
		bits := 0
		for _, b := range group {
			bits = bits<<byteBits | int(b)
		}
		for i := range p.levels {
			l = append(l, bits>>p.shift(i)&highest(p.depth))
		}
	}
	return l
}

// Pack is described in doc/07-finish.md.
func Pack(l []int, depth int) (string, api.Errno) {
	p, found := packingOf(depth)
	if !found {
		return "", api.ErrKind
	}
	if len(l) > maxLevels {
		return "", api.ErrLarge
	}
	for _, n := range l {
		if !isLevel(n, depth) {
			return "", api.ErrRange
		}
	}
	return p.write(l), api.OK
}

// Unpack is described in doc/07-finish.md.
func Unpack(text string, many, depth int) ([]int, api.Errno) {
	p, found := packingOf(depth)
	if !found {
		return nil, api.ErrKind
	}
	if many < 0 || many > maxLevels {
		return nil, api.ErrRange
	}
	groups := (many + p.levels - 1) / p.levels
	if len(text) != groups*p.bytes {
		return nil, api.ErrForm
	}
	l := p.read(text)[:many]
	// Written again, the levels are the same text if all other bits are 0.
	if p.write(l) != text {
		return nil, api.ErrForm
	}
	return l, api.OK
}
