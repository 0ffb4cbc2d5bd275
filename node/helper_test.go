package node_test

import (
	"math"
	"slices"
	"testing"

	"dyehouse/api"
)

const (
	nanBits  = 0x7fc00000
	greatest = math.MaxFloat32
	least    = math.SmallestNonzeroFloat32
	far      = 1 << 20 // the greatest magnitude of a coordinate
)

func single(b uint32) float32 { return math.Float32frombits(b) }

func infinity() float32 { return single(0x7f800000) }

func minusZero() float32 { return single(0x80000000) }

func nan() float32 { return single(nanBits) }

// oddNaN is a NaN that is not the one of results.
func oddNaN() float32 { return single(0xff800001) }

// above and below are the singles next to v.
func above(v float32) float32 { return math.Nextafter32(v, infinity()) }
func below(v float32) float32 { return math.Nextafter32(v, -infinity()) }

// noNumbers are singles that are no numbers.
func noNumbers() []float32 {
	return []float32{infinity(), -infinity(), nan(), oddNaN(), single(0x7f800001)}
}

// oddities are singles where something is special.
func oddities() []float32 {
	l := noNumbers()
	for _, b := range []uint32{
		0, 0x80000000, 1, 0x80000001, 0x007fffff, 0x807fffff, 0x00800000, 0x80800000,
		0x3f800000, 0xbf800000, 0x3f7fffff, 0x3f800001, 0x40000000, 0xc0000000, 0x7f7fffff, 0xff7fffff,
	} {
		l = append(l, single(b))
	}
	return l
}

// badInts are integers that are beyond each bound of this chapter.
func badInts() []int {
	return []int{-1 << 25, 1 << 25, -1<<32 + 1, 1<<32 + 1, 1 << 62, math.MaxInt, math.MinInt}
}

// mixer makes numbers that have no pattern, the same in every run.
type mixer struct{ state uint64 }

func (m *mixer) next() uint32 {
	m.state += 0x9e3779b97f4a7c15
	z := m.state
	z = (z ^ z>>30) * 0xbf58476d1ce4e5b9
	z = (z ^ z>>27) * 0x94d049bb133111eb
	return uint32(z >> 32)
}

// below returns an integer from 0 to below n.
func (m *mixer) below(n int) int { return int(m.next()>>1) % n }

// from returns an integer from low to high.
func (m *mixer) from(low, high int) int { return low + m.below(high-low+1) }

// plain returns a number of moderate size, of either sign.
func (m *mixer) plain() float32 {
	return single(m.next()&0x80000000 | (122+m.next()%8)<<23 | m.next()>>9)
}

// between returns a number from low to high.
func (m *mixer) between(low, high float32) float32 {
	return low + float32((high-low)*float32(m.next()>>8)*0x1p-24)
}

// share returns a number from 0 to 1.
func (m *mixer) share() float32 { return m.between(0, 1) }

// odd returns an oddity.
func (m *mixer) odd() float32 {
	l := oddities()
	return l[m.below(len(l))]
}

// wild returns a number of moderate size, or an oddity.
func (m *mixer) wild() float32 {
	if m.below(4) == 0 {
		return m.odd()
	}
	return m.plain()
}

// region returns a small region, at times at an edge of all.
func (m *mixer) region() api.Region { return m.regionWithin(0) }

// regionWithin returns one that may be grown by a margin.
func (m *mixer) regionWithin(margin int) api.Region {
	r := api.Region{X: m.from(-20, 20), Y: m.from(-20, 20), W: m.from(1, 9), H: m.from(1, 9)}
	switch m.below(8) {
	case 0:
		r.X = -far + margin
	case 1:
		r.Y = far - r.H - margin
	}
	return r
}

// listOf returns n of what value makes.
func listOf(n int, value func() float32) []float32 {
	l := make([]float32, n)
	for i := range l {
		l[i] = value()
	}
	return l
}

// frameOf returns a frame of what value makes.
func frameOf(r api.Region, value func() float32) api.Frame {
	return api.Frame{Region: r, V: listOf(4*r.W*r.H, value)}
}

// pixelOf returns a pixel of what value makes.
func pixelOf(value func() float32) api.Pixel { return api.Pixel(listOf(4, value)) }

// pixelAt is the pixel of f at (x, y).
func pixelAt(f api.Frame, x, y int) api.Pixel {
	n := 4 * ((y-f.Y)*f.W + x - f.X)
	return api.Pixel(f.V[n : n+4])
}

// pixelsOf are the singles of what pixel says of each place of r.
func pixelsOf(r api.Region, pixel func(x, y int) api.Pixel) []float32 {
	var v []float32
	for y := r.Y; y < r.Y+r.H; y++ {
		for x := r.X; x < r.X+r.W; x++ {
			p := pixel(x, y)
			v = append(v, p[:]...)
		}
	}
	return v
}

// clean is what results have in place of v, by its bits.
func clean(v float32) uint32 {
	if v != v {
		return nanBits
	}
	return math.Float32bits(v)
}

// Doubles hold sums and products of two singles, and quotients, well enough to be
// rounded once more.
func add(a, b float32) float32 { return float32(float64(a) + float64(b)) }
func sub(a, b float32) float32 { return float32(float64(a) - float64(b)) }
func mul(a, b float32) float32 { return float32(float64(a) * float64(b)) }
func div(a, b float32) float32 { return float32(float64(a) / float64(b)) }

// magnitude is v without its sign.
func magnitude(v float32) float32 { return single(math.Float32bits(v) &^ 0x80000000) }

// isNumber says whether v is neither a NaN nor an infinity.
func isNumber(v float32) bool { return v-v == 0 }

// check tells of a result that has not the bits of want (the NaN for any NaN).
func check(t *testing.T, got, want float32, what ...any) {
	t.Helper()
	if math.Float32bits(got) != clean(want) {
		t.Errorf("%v: got %v (%08x), want %v (%08x)", what, got, math.Float32bits(got), want, clean(want))
	}
}

// checkList does so for lists.
func checkList(t *testing.T, got, want []float32, what ...any) {
	t.Helper()
	if len(got) != len(want) {
		t.Errorf("%v: %d singles, want %d", what, len(got), len(want))
		return
	}
	for i, v := range got {
		if math.Float32bits(v) != clean(want[i]) {
			t.Errorf("%v: number %d: got %v (%08x), want %v (%08x)", what, i, v, math.Float32bits(v), want[i], clean(want[i]))
			return
		}
	}
}

// checkPixel does so for pixels.
func checkPixel(t *testing.T, got, want api.Pixel, what ...any) {
	t.Helper()
	checkList(t, got[:], want[:], what...)
}

// checkFrame tells of a frame that has not this region and these values.
func checkFrame(t *testing.T, got api.Frame, e api.Errno, r api.Region, want []float32, what ...any) {
	t.Helper()
	if e != api.OK || got.Region != r {
		t.Errorf("%v: region %v, error %d, want %v", what, got.Region, e, r)
		return
	}
	checkList(t, got.V, want, what...)
}

// checkInts does so for integers.
func checkInts(t *testing.T, got []int, e api.Errno, want []int, what ...any) {
	t.Helper()
	if e != api.OK || !slices.Equal(got, want) {
		t.Errorf("%v: got %v, error %d, want %v", what, got, e, want)
	}
}

// checkError tells of an error that is not want.
func checkError(t *testing.T, got, want api.Errno, what ...any) {
	t.Helper()
	if got != want {
		t.Errorf("%v: error %d, want %d", what, got, want)
	}
}

// refused tells of a call that has not this error, or a result beside it.
func refused[T comparable](t *testing.T, got T, e, want api.Errno, what ...any) {
	t.Helper()
	var nothing T
	if e != want || got != nothing {
		t.Errorf("%v: got %v, error %d, want %d", what, got, e, want)
	}
}

// refusedList does so for lists.
func refusedList[T any](t *testing.T, got []T, e, want api.Errno, what ...any) {
	t.Helper()
	if e != want || len(got) != 0 {
		t.Errorf("%v: got %v, error %d, want %d", what, got, e, want)
	}
}

// refusedFrame does so for frames.
func refusedFrame(t *testing.T, got api.Frame, e, want api.Errno, what ...any) {
	t.Helper()
	if e != want || got.Region != (api.Region{}) || len(got.V) != 0 {
		t.Errorf("%v: got %v, error %d, want %d", what, got, e, want)
	}
}

// badRegion is a region with the error that it has.
type badRegion struct {
	api.Region
	error api.Errno
}

// badRegions are regions of each error of frame.CheckRegion.
func badRegions() []badRegion {
	var l []badRegion
	for _, n := range append(badInts(), 0, -1, 257) {
		l = append(l,
			badRegion{api.Region{W: n, H: 1}, api.ErrRange}, badRegion{api.Region{W: 1, H: n}, api.ErrRange},
			badRegion{api.Region{X: 2 * far, W: 256, H: n}, api.ErrRange})
	}
	for _, r := range []api.Region{{W: 256, H: 65}, {W: 65, H: 256}, {X: 2 * far, W: 129, H: 128}} {
		l = append(l, badRegion{r, api.ErrLarge})
	}
	for _, n := range append(badInts(), -far-1, far) {
		l = append(l, badRegion{api.Region{X: n, W: 1, H: 1}, api.ErrPlace}, badRegion{api.Region{Y: n, W: 1, H: 1}, api.ErrPlace})
	}
	return append(l, badRegion{api.Region{X: far - 2, W: 3, H: 1}, api.ErrPlace}, badRegion{api.Region{Y: far - 255, W: 1, H: 256}, api.ErrPlace})
}

// badLengths are how many elements a list that needs n has not.
func badLengths(n int) []int { return []int{0, 1, n - 1, n + 1, 2 * n, 3 * n} }

// badFrame is a frame with the error that it has.
type badFrame struct {
	frame api.Frame
	error api.Errno
}

// badFrames are frames of each error of frame.Check.
func badFrames() []badFrame {
	var l []badFrame
	for _, r := range badRegions() {
		l = append(l, badFrame{api.Frame{Region: r.Region, V: make([]float32, 4)}, r.error})
	}
	for _, n := range badLengths(24) {
		l = append(l, badFrame{api.Frame{Region: api.Region{W: 3, H: 2}, V: make([]float32, n)}, api.ErrForm})
	}
	return l
}
