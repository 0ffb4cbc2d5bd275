package frame_test

import (
	"math"
	"testing"

	"dyehouse/api"
)

const nanBits = 0x7fc00000

func single(b uint32) float32 { return math.Float32frombits(b) }

func infinity() float32 { return single(0x7f800000) }

func minusZero() float32 { return single(0x80000000) }

// oddities returns singles where something is special: zeros, subnormal
// numbers, the ends of the numbers, infinities, NaNs of several bits.
func oddities() []float32 {
	var l []float32
	for _, b := range []uint32{
		0, 0x80000000, 1, 0x80000001, 0x007fffff, 0x807fffff, 0x00800000, 0x3f800000, 0xbf800000, 0x3f000000,
		0x7f7fffff, 0xff7fffff, 0x7f800000, 0xff800000, 0x7fc00000, 0x7f800001, 0xff800001, 0xffc00000, 0xffffffff,
	} {
		l = append(l, single(b))
	}
	return l
}

// mixer makes numbers that have no pattern, the same in every run.
type mixer struct{ state uint64 }

func (m *mixer) next() uint32 {
	m.state += 0x9e3779b97f4a7c15
	z := m.state
	z = (z ^ z>>30) * 0xbf58476d1ce4e5b9
	z = (z ^ z>>27) * 0x94d049bb133111eb
	return uint32(z >> 32)
}

// plain returns a number of moderate size, of either sign.
func (m *mixer) plain() float32 {
	return single(m.next()&0x80000000 | (122+m.next()%8)<<23 | m.next()>>9)
}

// below returns a number from 0 to below n.
func (m *mixer) below(n int) int { return int(m.next()>>1) % n }

// frameOf makes a frame of what value says of each channel of each pixel.
func frameOf(r api.Region, value func(x, y, c int) float32) api.Frame {
	f := api.Frame{Region: r}
	for y := r.Y; y < r.Y+r.H; y++ {
		for x := r.X; x < r.X+r.W; x++ {
			for c := range 4 {
				f.V = append(f.V, value(x, y, c))
			}
		}
	}
	return f
}

// noise is a frame of moderate numbers.
func noise(r api.Region, seed uint64) api.Frame {
	m := mixer{seed}
	return frameOf(r, func(_, _, _ int) float32 { return m.plain() })
}

// wild is a frame of numbers, of which some are odd.
func wild(r api.Region, seed uint64) api.Frame {
	m, odd := mixer{seed}, oddities()
	return frameOf(r, func(_, _, _ int) float32 {
		if m.below(4) == 0 {
			return odd[m.below(len(odd))]
		}
		return m.plain()
	})
}

// at is a channel of a pixel of f.
func at(f api.Frame, x, y, c int) float32 { return f.V[((y-f.Y)*f.W+x-f.X)*4+c] }

func has(r api.Region, x, y int) bool {
	return r.X <= x && x < r.X+r.W && r.Y <= y && y < r.Y+r.H
}

func region(x, y, w, h int) api.Region { return api.Region{X: x, Y: y, W: w, H: h} }

func of(x, y, w, h int, v ...float32) api.Frame {
	return api.Frame{Region: region(x, y, w, h), V: v}
}

// clean is what results have in place of v, by its bits.
func clean(v float32) uint32 {
	if v != v {
		return nanBits
	}
	return math.Float32bits(v)
}

// Doubles hold sums and products of two singles, and quotients of moderate
// ones, well enough to be rounded once more.
func add(a, b float32) float32 { return float32(float64(a) + float64(b)) }
func sub(a, b float32) float32 { return float32(float64(a) - float64(b)) }
func mul(a, b float32) float32 { return float32(float64(a) * float64(b)) }
func div(a, b float32) float32 { return float32(float64(a) / float64(b)) }

func lerp(a, b, t float32) float32 {
	if t == 0 {
		return a
	}
	if t == 1 {
		return b
	}
	return add(a, mul(sub(b, a), t))
}

// checkList tells of a list that has not the bits of want (the NaN for any NaN).
func checkList(t *testing.T, got, want []float32, what ...any) {
	t.Helper()
	if len(got) != len(want) {
		t.Errorf("%v: %d singles, want %d", what, len(got), len(want))
		return
	}
	for i, v := range got {
		if math.Float32bits(v) != clean(want[i]) {
			t.Errorf("%v: single %d is %v (%08x), want %v (%08x)", what, i, v, math.Float32bits(v), want[i], clean(want[i]))
			return
		}
	}
}

// check tells of a frame that is not want, bit by bit (the NaN for any NaN).
func check(t *testing.T, got api.Frame, e api.Errno, want api.Frame, what ...any) {
	t.Helper()
	if e != api.OK || got.Region != want.Region {
		t.Errorf("%v: %v, error %d, want %v", what, got.Region, e, want.Region)
		return
	}
	checkList(t, got.V, want.V, what...)
}

// refused tells of a call that has not this error, or a result beside it.
func refused(t *testing.T, got api.Frame, e, want api.Errno, what ...any) {
	t.Helper()
	if e != want || !isNothing(got) {
		t.Errorf("%v: %v, error %d, want %d", what, got, e, want)
	}
}

func isNothing(f api.Frame) bool { return f.Region == api.Region{} && len(f.V) == 0 }

// spare gives a list unused capacity, and tells whether anything has changed.
func spare(l []float32) ([]float32, func() bool) {
	all := append(append([]float32{}, l...), 7, single(0xffc00001), 9)
	was := append([]float32{}, all...)
	return all[:len(l)], func() bool {
		for i := range all {
			if math.Float32bits(all[i]) != math.Float32bits(was[i]) {
				return true
			}
		}
		return false
	}
}

// badRegions are regions with the errors that they have.
func badRegions() map[api.Region]api.Errno {
	const place, most, least = api.MaxPlace, math.MaxInt, math.MinInt
	return map[api.Region]api.Errno{
		{}:                         api.ErrRange,
		region(0, 0, 0, 1):         api.ErrRange,
		region(0, 0, 1, 0):         api.ErrRange,
		region(0, 0, -1, -1):       api.ErrRange,
		region(0, 0, 257, 1):       api.ErrRange,
		region(0, 0, 1, 257):       api.ErrRange,
		region(place, 0, 257, 257): api.ErrRange,
		region(0, 0, most, 2):      api.ErrRange,
		region(0, 0, 1<<32, 1<<32): api.ErrRange,
		region(0, 0, least, least): api.ErrRange,
		region(1, 0, most, 1):      api.ErrRange,

		region(0, 0, 256, 65):     api.ErrLarge,
		region(0, 0, 65, 256):     api.ErrLarge,
		region(0, 0, 129, 128):    api.ErrLarge,
		region(0, 0, 256, 256):    api.ErrLarge,
		region(place, 0, 256, 65): api.ErrLarge,
		region(least, 0, 256, 65): api.ErrLarge,

		region(place, 0, 1, 1):      api.ErrPlace,
		region(0, place, 1, 1):      api.ErrPlace,
		region(place-1, 0, 2, 1):    api.ErrPlace,
		region(0, place-1, 1, 2):    api.ErrPlace,
		region(-place-1, 0, 1, 1):   api.ErrPlace,
		region(0, -place-1, 1, 1):   api.ErrPlace,
		region(-place-1, 0, 256, 1): api.ErrPlace,
		region(most, 0, 1, 1):       api.ErrPlace,
		region(0, most, 1, 1):       api.ErrPlace,
		region(least, 0, 1, 1):      api.ErrPlace,
		region(0, least, 1, 1):      api.ErrPlace,
		region(most, least, 9, 9):   api.ErrPlace,
	}
}

// goodRegions are regions at the limits.
func goodRegions() []api.Region {
	const place = api.MaxPlace
	return []api.Region{
		region(0, 0, 1, 1), region(0, 0, 256, 64), region(0, 0, 64, 256), region(-7, 9, 128, 128), region(3, -3, 1, 256), region(0, 0, 256, 1),
		region(place-1, place-1, 1, 1), region(-place, -place, 1, 1), region(place-256, -place, 256, 64), region(-place, place-256, 64, 256),
	}
}

// bad is a frame with the error that it has.
type bad struct {
	frame api.Frame
	error api.Errno
}

// badFrames are frames of each error of Check.
func badFrames() []bad {
	var l []bad
	for r, e := range badRegions() {
		l = append(l, bad{api.Frame{Region: r}, e}, bad{api.Frame{Region: r, V: make([]float32, 4)}, e})
	}
	for _, n := range []int{0, 1, 3, 4, 5, 7, 9, 12, 16} {
		l = append(l, bad{api.Frame{Region: region(0, 0, 2, 1), V: make([]float32, n)}, api.ErrForm})
	}
	l = append(l, bad{api.Frame{Region: region(0, 0, 256, 64), V: make([]float32, 1<<16-1)}, api.ErrForm})
	return append(l, bad{api.Frame{Region: region(0, 0, 256, 65), V: make([]float32, 4*256*65)}, api.ErrLarge})
}
