package colour_test

import (
	"math"
	"testing"

	"dyehouse/api"
	"dyehouse/colour"
)

const nanBits = 0x7fc00000

func single(b uint32) float32 { return math.Float32frombits(b) }

func infinity() float32 { return single(0x7f800000) }

func minusZero() float32 { return single(0x80000000) }

// oddNaN is a NaN that is not the one of results.
func oddNaN() float32 { return single(0xff800001) }

// above and below are the singles next to v.
func above(v float32) float32 { return math.Nextafter32(v, infinity()) }
func below(v float32) float32 { return math.Nextafter32(v, -infinity()) }

// noNumbers are singles that are no numbers.
func noNumbers() []float32 {
	return []float32{infinity(), -infinity(), single(nanBits), oddNaN(), single(0x7f800001)}
}

// oddities are singles where something is special.
func oddities() []float32 {
	l := noNumbers()
	for _, b := range []uint32{
		0, 0x80000000, 1, 0x80000001, 0x007fffff, 0x807fffff, 0x00800000, 0x80800000,
		0x3f800000, 0xbf800000, 0x3f7fffff, 0x3f800001, 0x40000000, 0xc0000000, 0x7f7fffff, 0xff7fffff,
	} {
		l = append(l, single(b))
	}
	return l
}

// mixer makes numbers that have no pattern, the same in every run.
type mixer struct{ state uint64 }

func (m *mixer) next() uint32 {
	m.state += 0x9e3779b97f4a7c15
	z := m.state
	z = (z ^ z>>30) * 0xbf58476d1ce4e5b9
	z = (z ^ z>>27) * 0x94d049bb133111eb
	return uint32(z >> 32)
}

// plain returns a number of moderate size, of either sign.
func (m *mixer) plain() float32 {
	return single(m.next()&0x80000000 | (122+m.next()%8)<<23 | m.next()>>9)
}

// between returns a number from low to high.
func (m *mixer) between(low, high float32) float32 {
	return low + float32((high-low)*float32(m.next()>>8)*0x1p-24)
}

// wild returns a number of moderate size, or an oddity.
func (m *mixer) wild() float32 {
	if odd := oddities(); m.next()%4 == 0 {
		return odd[m.next()%uint32(len(odd))]
	}
	return m.plain()
}

// pixel returns a pixel of what value makes.
func pixel(value func() float32) api.Pixel {
	return api.Pixel{value(), value(), value(), value()}
}

// double returns a moderate double of either sign.
func (m *mixer) double() float64 {
	high := uint64(m.next()) << 32
	return float64(int64(high|uint64(m.next()))) * 0x1p-62
}

// matrix returns a matrix of moderate doubles.
func (m *mixer) matrix() api.Matrix {
	var l api.Matrix
	for i := range l {
		l[i] = m.double()
	}
	return l
}

// spot returns a spot that is neither near the edges of what is allowed nor
// where no light is.
func (m *mixer) spot() api.Spot {
	return api.Spot{X: m.between(0.05, 0.7), Y: m.between(0.05, 0.8)}
}

func (m *mixer) primaries() api.Primaries {
	return api.Primaries{Red: m.spot(), Green: m.spot(), Blue: m.spot(), White: m.spot()}
}

// frame returns a frame of wild pixels.
func (m *mixer) frame(x, y, w, h int) api.Frame {
	f := api.Frame{Region: api.Region{X: x, Y: y, W: w, H: h}}
	for range 4 * w * h {
		f.V = append(f.V, m.wild())
	}
	return f
}

// known returns the space with a name.
func known(t *testing.T, name string) api.Space {
	t.Helper()
	s, e := colour.Known(name)
	if e != api.OK {
		t.Fatalf("Known(%q): %d", name, e)
	}
	return s
}

// clean is what results have in place of v, by its bits.
func clean(v float32) uint32 {
	if v != v {
		return nanBits
	}
	return math.Float32bits(v)
}

// Doubles hold sums and products of two singles, and quotients, well enough to
// be rounded once more.
func add(a, b float32) float32 { return float32(float64(a) + float64(b)) }
func sub(a, b float32) float32 { return float32(float64(a) - float64(b)) }
func mul(a, b float32) float32 { return float32(float64(a) * float64(b)) }
func div(a, b float32) float32 { return float32(float64(a) / float64(b)) }

// Doubles that are rounded at once: the conversions keep them apart.
func plus(a, b float64) float64  { return float64(a + b) }
func minus(a, b float64) float64 { return float64(a - b) }
func times(a, b float64) float64 { return float64(a * b) }
func over(a, b float64) float64  { return float64(a / b) }

// check tells of a result that has not the bits of want (the NaN for any NaN).
func check(t *testing.T, got, want float32, what ...any) {
	t.Helper()
	if math.Float32bits(got) != clean(want) {
		t.Errorf("%v: got %v (%08x), want %v (%08x)", what, got, math.Float32bits(got), want, clean(want))
	}
}

// checkList does so for lists.
func checkList(t *testing.T, got, want []float32, what ...any) {
	t.Helper()
	if len(got) != len(want) {
		t.Errorf("%v: %d singles, want %d", what, len(got), len(want))
		return
	}
	for i, v := range got {
		if math.Float32bits(v) != clean(want[i]) {
			t.Errorf("%v: got %v, want %v (number %d: %08x, want %08x)", what, got, want, i, math.Float32bits(v), clean(want[i]))
			return
		}
	}
}

func checkPixel(t *testing.T, got, want api.Pixel, what ...any) {
	t.Helper()
	checkList(t, got[:], want[:], what...)
}

// checkMatrix tells of a matrix that has not the bits of want.
func checkMatrix(t *testing.T, got api.Matrix, e api.Errno, want api.Matrix, what ...any) {
	t.Helper()
	for i, v := range want {
		if e != api.OK || math.Float64bits(got[i]) != math.Float64bits(v) {
			t.Errorf("%v: got %v, error %d, want %v (element %d)", what, got, e, want, i)
			return
		}
	}
}

// refused tells of a call that has not this error, or a result beside it.
func refused[T comparable](t *testing.T, got T, e, want api.Errno, what ...any) {
	t.Helper()
	var nothing T
	if e != want || got != nothing {
		t.Errorf("%v: got %v, error %d, want %d", what, got, e, want)
	}
}

// refusedFrame does so for frames.
func refusedFrame(t *testing.T, got api.Frame, e, want api.Errno, what ...any) {
	t.Helper()
	if e != want || got.Region != (api.Region{}) || len(got.V) != 0 {
		t.Errorf("%v: got %v, error %d, want %d", what, got.Region, e, want)
	}
}

// checkFrame tells of a frame that is not what change makes of each pixel of f,
// that shares memory with it, or that was made at its expense.
func checkFrame(t *testing.T, call func(f api.Frame) (api.Frame, api.Errno), f api.Frame, change func(p api.Pixel) api.Pixel, what ...any) {
	t.Helper()
	var want []float32
	for i := 0; i < len(f.V); i += 4 {
		p := change(api.Pixel(f.V[i : i+4]))
		want = append(want, p[:]...)
	}
	memory := append(append([]float32{}, f.V...), 7, oddNaN(), 9)
	was := append([]float32{}, memory...)
	g, e := call(api.Frame{Region: f.Region, V: memory[:len(f.V)]})
	if e != api.OK || g.Region != f.Region {
		t.Errorf("%v: %v, error %d, want %v", what, g.Region, e, f.Region)
		return
	}
	checkList(t, g.V, want, what...)
	for i := range g.V[:cap(g.V)] {
		g.V[:cap(g.V)][i] = 99
	}
	for i, v := range memory {
		if math.Float32bits(v) != math.Float32bits(was[i]) {
			t.Errorf("%v: single %d of the argument has changed", what, i)
			return
		}
	}
}

// farthest is the greatest magnitude of the differences of both lists.
func farthest(a, b []float32) float64 {
	d := 0.0
	for i := range a {
		d = max(d, math.Abs(float64(a[i])-float64(b[i])))
	}
	return d
}
