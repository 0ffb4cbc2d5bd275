package cube_test

import (
	"math"
	"testing"

	"dyehouse/api"
)

const (
	nanBits  = 0x7fc00000
	greatest = math.MaxFloat32
	maxEnd   = 1 << 20 // the greatest magnitude of Low and High
)

func single(b uint32) float32 { return math.Float32frombits(b) }

func infinity() float32 { return single(0x7f800000) }

func minusZero() float32 { return single(0x80000000) }

// oddNaN is a NaN that is not the one of results.
func oddNaN() float32 { return single(0xff800001) }

// above and below are the singles next to v.
func above(v float32) float32 { return math.Nextafter32(v, infinity()) }
func below(v float32) float32 { return math.Nextafter32(v, -infinity()) }

// noNumbers are singles that are no numbers.
func noNumbers() []float32 {
	return []float32{infinity(), -infinity(), single(nanBits), oddNaN(), single(0x7f800001)}
}

// oddities are singles where something is special.
func oddities() []float32 {
	l := noNumbers()
	for _, b := range []uint32{
		0, 0x80000000, 1, 0x80000001, 0x007fffff, 0x807fffff, 0x00800000, 0x80800000,
		0x3f800000, 0xbf800000, 0x3f7fffff, 0x3f800001, 0x40000000, 0xc0000000, 0x7f7fffff, 0xff7fffff,
	} {
		l = append(l, single(b))
	}
	return l
}

// badInts are integers that are no place and no size of a cube.
func badInts() []int {
	return []int{-1, -2, 18, 1 << 20, 1 << 32, 1<<32 + 2, 1 << 62, math.MaxInt, math.MinInt}
}

// mixer makes numbers that have no pattern, the same in every run.
type mixer struct{ state uint64 }

func (m *mixer) next() uint32 {
	m.state += 0x9e3779b97f4a7c15
	z := m.state
	z = (z ^ z>>30) * 0xbf58476d1ce4e5b9
	z = (z ^ z>>27) * 0x94d049bb133111eb
	return uint32(z >> 32)
}

// below returns an integer from 0 to below n.
func (m *mixer) below(n int) int { return int(m.next()>>1) % n }

// plain returns a number of moderate size, of either sign.
func (m *mixer) plain() float32 {
	return single(m.next()&0x80000000 | (122+m.next()%8)<<23 | m.next()>>9)
}

// between returns a number from low to high.
func (m *mixer) between(low, high float32) float32 {
	return low + float32((high-low)*float32(m.next()>>8)*0x1p-24)
}

// share returns a number from 0 to 1.
func (m *mixer) share() float32 { return m.between(0, 1) }

// odd returns an oddity.
func (m *mixer) odd() float32 {
	l := oddities()
	return l[m.below(len(l))]
}

// wild returns a number of moderate size, or an oddity.
func (m *mixer) wild() float32 {
	if m.below(4) == 0 {
		return m.odd()
	}
	return m.plain()
}

// three returns three of what value makes.
func three(value func() float32) [3]float32 { return [3]float32{value(), value(), value()} }

// cubeOf returns a cube of what value makes.
func cubeOf(size int, low, high float32, value func() float32) api.Cube {
	c := api.Cube{Size: size, Low: low, High: high}
	for range 3 * size * size * size {
		c.V = append(c.V, value())
	}
	return c
}

// cube returns a cube of some size, with some ends, of what value makes.
func (m *mixer) cube(value func() float32) api.Cube {
	low := m.plain()
	ends := [][2]float32{{0, 1}, {0, 2}, {-1, 1}, {minusZero(), 3}, {low, low + m.between(0.1, 5)}, {-maxEnd, maxEnd}, {0, single(1)}, {1, above(1)}}
	e := ends[m.below(len(ends))]
	return cubeOf(2+m.below(4), e[0], e[1], value)
}

// value returns a single for which c may be asked: on an entry, between two,
// beyond the ends, or anything.
func (m *mixer) value(c api.Cube) float32 {
	switch m.below(6) {
	case 0:
		return add(c.Low, mul(sub(c.High, c.Low), div(float32(m.below(c.Size)), float32(c.Size-1))))
	case 1:
		return m.odd()
	case 2:
		return []float32{c.Low, c.High, above(c.Low), below(c.High), below(c.Low), above(c.High)}[m.below(6)]
	}
	return add(c.Low, mul(sub(c.High, c.Low), m.between(-0.2, 1.2)))
}

// pixel returns a pixel for c, often with values that are equal.
func (m *mixer) pixel(c api.Cube) api.Pixel {
	p := api.Pixel{m.value(c), m.value(c), m.value(c), m.wild()}
	if m.below(3) == 0 {
		p[m.below(3)] = p[m.below(3)]
	}
	if m.below(6) == 0 {
		p[1], p[2] = p[0], p[0]
	}
	return p
}

// frame returns a frame of pixels for c.
func (m *mixer) frame(c api.Cube, x, y, w, h int) api.Frame {
	f := api.Frame{Region: api.Region{X: x, Y: y, W: w, H: h}}
	for range w * h {
		p := m.pixel(c)
		f.V = append(f.V, p[:]...)
	}
	return f
}

// at is the entry (i, j, k) of c.
func at(c api.Cube, i, j, k int) [3]float32 {
	n := 3 * (i + c.Size*(j+c.Size*k))
	return [3]float32{c.V[n], c.V[n+1], c.V[n+2]}
}

// wantEach makes a list of what value says of each entry, in order of numbers.
func wantEach(size int, value func(i, j, k int) [3]float32) []float32 {
	l := make([]float32, 3*size*size*size)
	for i := range size {
		for j := range size {
			for k := range size {
				v := value(i, j, k)
				copy(l[3*(i+j*size+k*size*size):], v[:])
			}
		}
	}
	return l
}

// clean is what results have in place of v, by its bits.
func clean(v float32) uint32 {
	if v != v {
		return nanBits
	}
	return math.Float32bits(v)
}

// Doubles hold sums and products of two singles, and quotients, well enough to
// be rounded once more.
func add(a, b float32) float32 { return float32(float64(a) + float64(b)) }
func sub(a, b float32) float32 { return float32(float64(a) - float64(b)) }
func mul(a, b float32) float32 { return float32(float64(a) * float64(b)) }
func div(a, b float32) float32 { return float32(float64(a) / float64(b)) }

// check tells of a result that has not the bits of want (the NaN for any NaN).
func check(t *testing.T, got, want float32, what ...any) {
	t.Helper()
	if math.Float32bits(got) != clean(want) {
		t.Errorf("%v: got %v (%08x), want %v (%08x)", what, got, math.Float32bits(got), want, clean(want))
	}
}

// checkList does so for lists.
func checkList(t *testing.T, got, want []float32, what ...any) {
	t.Helper()
	if len(got) != len(want) {
		t.Errorf("%v: %d singles, want %d", what, len(got), len(want))
		return
	}
	for i, v := range got {
		if math.Float32bits(v) != clean(want[i]) {
			t.Errorf("%v: number %d: got %v (%08x), want %v (%08x)", what, i, v, math.Float32bits(v), want[i], clean(want[i]))
			return
		}
	}
}

func checkThree(t *testing.T, got, want [3]float32, what ...any) {
	t.Helper()
	checkList(t, got[:], want[:], what...)
}

func checkPixel(t *testing.T, got, want api.Pixel, what ...any) {
	t.Helper()
	checkList(t, got[:], want[:], what...)
}

// checkCube tells of a cube that has not these ends and values, bit by bit.
func checkCube(t *testing.T, got api.Cube, e api.Errno, like api.Cube, size int, v []float32, what ...any) {
	t.Helper()
	if e != api.OK || got.Size != size {
		t.Errorf("%v: size %d, error %d, want %d", what, got.Size, e, size)
		return
	}
	checkList(t, []float32{got.Low, got.High}, []float32{like.Low, like.High}, append(what, "ends")...)
	checkList(t, got.V, v, what...)
}

// checkError tells of an error that is not want.
func checkError(t *testing.T, got, want api.Errno, what ...any) {
	t.Helper()
	if got != want {
		t.Errorf("%v: error %d, want %d", what, got, want)
	}
}

// refused tells of a call that has not this error, or a result beside it.
func refused[T comparable](t *testing.T, got T, e, want api.Errno, what ...any) {
	t.Helper()
	var nothing T
	if e != want || got != nothing {
		t.Errorf("%v: got %v, error %d, want %d", what, got, e, want)
	}
}

// refusedCube does so for cubes.
func refusedCube(t *testing.T, got api.Cube, e, want api.Errno, what ...any) {
	t.Helper()
	if e != want || got.Size != 0 || got.Low != 0 || got.High != 0 || len(got.V) != 0 {
		t.Errorf("%v: got %v, error %d, want %d", what, got, e, want)
	}
}

// refusedFrame does so for frames.
func refusedFrame(t *testing.T, got api.Frame, e, want api.Errno, what ...any) {
	t.Helper()
	if e != want || got.Region != (api.Region{}) || len(got.V) != 0 {
		t.Errorf("%v: got %v, error %d, want %d", what, got.Region, e, want)
	}
}

// badCube is a cube with the error that it has.
type badCube struct {
	cube  api.Cube
	error api.Errno
}

// badCubes are cubes of each error of Check.
func badCubes() []badCube {
	var l []badCube
	put := func(size, singles int, low, high float32, e api.Errno) {
		l = append(l, badCube{api.Cube{Size: size, Low: low, High: high, V: make([]float32, singles)}, e})
	}
	for _, size := range append(badInts(), 0, 1) {
		for _, n := range []int{0, 3, 24, 3 * 18 * 18 * 18} {
			put(size, n, 0, 1, api.ErrRange)
			put(size, n, oddNaN(), oddNaN(), api.ErrRange)
		}
	}
	for _, n := range []int{0, 1, 8, 23, 25, 81} {
		put(2, n, 0, 1, api.ErrForm)
		put(2, n, 1, 0, api.ErrForm)
		put(2, n, 0, 4*maxEnd, api.ErrForm)
	}
	put(17, 3*17*17*17-1, 0, 1, api.ErrForm)
	put(17, 17*17*17, 0, 1, api.ErrForm)
	for _, v := range noNumbers() {
		put(2, 24, v, 1, api.ErrForm)
		put(2, 24, 0, v, api.ErrForm)
		put(3, 81, v, v, api.ErrForm)
		put(3, 81, 4*maxEnd, v, api.ErrForm)
	}
	for _, ends := range [][2]float32{{0, 0}, {0, minusZero()}, {minusZero(), 0}, {1, 1}, {1, 0}, {above(1), 1}, {0, -single(1)}, {4 * maxEnd, 2 * maxEnd}, {greatest, -greatest}, {greatest, greatest}} {
		put(2, 24, ends[0], ends[1], api.ErrOrder)
	}
	for _, ends := range [][2]float32{{0, above(maxEnd)}, {below(-maxEnd), 0}, {-2 * maxEnd, 2 * maxEnd}, {2 * maxEnd, 4 * maxEnd}, {-4 * maxEnd, -2 * maxEnd}, {-greatest, greatest}, {-greatest, 1}, {1, greatest}} {
		put(2, 24, ends[0], ends[1], api.ErrRange)
	}
	return l
}

// badPair is two cubes with the error that they have.
type badPair struct {
	a, b  api.Cube
	error api.Errno
}

// badPairs are pairs of cubes of which one or both are bad.
func badPairs() []badPair {
	good := cubeOf(2, 0, 1, func() float32 { return 0.5 })
	worse := api.Cube{Size: 2, Low: 1, V: make([]float32, 24)} // ErrOrder
	l := []badPair{{worse, api.Cube{}, api.ErrOrder}}
	for _, c := range badCubes() {
		l = append(l, badPair{c.cube, good, c.error}, badPair{good, c.cube, c.error}, badPair{c.cube, worse, c.error})
	}
	return l
}

// unlike are cubes that differ from a cube of size 2 from 0 to 1 in one thing.
func unlike() []api.Cube {
	zero := func() float32 { return 0 }
	return []api.Cube{cubeOf(3, 0, 1, zero), cubeOf(2, single(1), 1, zero), cubeOf(2, -1, 1, zero), cubeOf(2, 0, above(1), zero), cubeOf(2, 0, 2, zero)}
}

// spare gives a list unused capacity, and tells whether anything has changed.
func spare(l []float32) ([]float32, func() bool) {
	all := append(append([]float32{}, l...), 7, single(0xffc00001), 9)
	was := append([]float32{}, all...)
	return all[:len(l)], func() bool {
		for i := range all {
			if math.Float32bits(all[i]) != math.Float32bits(was[i]) {
				return true
			}
		}
		return false
	}
}
