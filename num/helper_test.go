package num_test

import (
	"math"
	"testing"
)

const nanBits = 0x7fc00000

// edges are the bits of singles where something changes: zeros, subnormal and
// normal numbers, infinities, NaNs of several bits.
var edges = []uint32{
	0x00000000, 0x00000001, 0x00000002, 0x00000003, 0x00400000, 0x007fffff, 0x00800000, 0x00800001,
	0x33000000, 0x33800000, 0x3effffff, 0x3f000000, 0x3f000001, 0x3f7fffff, 0x3f800000, 0x3f800001,
	0x3fc00000, 0x40000000, 0x40200000, 0x4b7fffff, 0x4b800000, 0x7f7ffffe, 0x7f7fffff, 0x7f800000,
	0x7f800001, 0x7fbfffff, 0x7fc00000, 0x7fc00001, 0x7fffffff,
	0x80000000, 0x80000001, 0x80000002, 0x80000003, 0x80400000, 0x807fffff, 0x80800000, 0x80800001,
	0xb3000000, 0xb3800000, 0xbeffffff, 0xbf000000, 0xbf000001, 0xbf7fffff, 0xbf800000, 0xbf800001,
	0xbfc00000, 0xc0000000, 0xc0200000, 0xcb7fffff, 0xcb800000, 0xff7ffffe, 0xff7fffff, 0xff800000,
	0xff800001, 0xffbfffff, 0xffc00000, 0xffc00001, 0xffffffff,
}

func single(b uint32) float32 { return math.Float32frombits(b) }

func infinity() float32 { return float32(math.Inf(1)) }

// mixer makes numbers that have no pattern, the same in every run.
type mixer struct{ state uint64 }

func (m *mixer) next() uint32 {
	m.state += 0x9e3779b97f4a7c15
	z := m.state
	z = (z ^ z>>30) * 0xbf58476d1ce4e5b9
	z = (z ^ z>>27) * 0x94d049bb133111eb
	return uint32(z >> 32)
}

// plain returns a number of moderate size, of either sign.
func (m *mixer) plain() float32 {
	sign, exponent, fraction := m.next()&0x80000000, 120+m.next()%14, m.next()>>9
	return single(sign | exponent<<23 | fraction)
}

// samples returns the edges, and n singles of all kinds.
func samples(n int) []float32 {
	var l []float32
	for _, b := range edges {
		l = append(l, single(b))
	}
	m := mixer{}
	for range n {
		l = append(l, single(m.next()))
	}
	return l
}

// clean is what results have in place of v, by its bits.
func clean(v float32) uint32 {
	if v != v {
		return nanBits
	}
	return math.Float32bits(v)
}

// check tells of a result that has not the bits of want (the NaN for any NaN).
func check(t *testing.T, got, want float32, what ...any) {
	t.Helper()
	if math.Float32bits(got) != clean(want) {
		t.Errorf("%v: got %v (%08x), want %v (%08x)", what, got, math.Float32bits(got), want, clean(want))
	}
}

// spare returns l as a slice with unused capacity, and a function that tells
// whether anything of both has changed.
func spare(l []float32) ([]float32, func() bool) {
	all := append(append([]float32{}, l...), 7, single(0xffc00001), 9)
	was := append([]float32{}, all...)
	return all[:len(l)], func() bool {
		for i := range all {
			if math.Float32bits(all[i]) != math.Float32bits(was[i]) {
				return true
			}
		}
		return false
	}
}
