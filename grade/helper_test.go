package grade_test

import (
	"math"
	"reflect"
	"testing"

	"dyehouse/api"
	"dyehouse/num"
)

const (
	nanBits  = 0x7fc00000
	greatest = math.MaxFloat32
)

func single(b uint32) float32 { return math.Float32frombits(b) }

func infinity() float32 { return single(0x7f800000) }

func minusZero() float32 { return single(0x80000000) }

// oddNaN is a NaN that is not the one of results.
func oddNaN() float32 { return single(0xff800001) }

// above and below are the singles next to v.
func above(v float32) float32 { return math.Nextafter32(v, infinity()) }
func below(v float32) float32 { return math.Nextafter32(v, -infinity()) }

// noNumbers are singles that are no numbers.
func noNumbers() []float32 {
	return []float32{infinity(), -infinity(), single(nanBits), oddNaN(), single(0x7f800001)}
}

// oddities are singles where something is special.
func oddities() []float32 {
	l := noNumbers()
	for _, b := range []uint32{
		0, 0x80000000, 1, 0x80000001, 0x007fffff, 0x807fffff, 0x00800000, 0x80800000,
		0x3f800000, 0xbf800000, 0x3f7fffff, 0x3f800001, 0x40000000, 0xc0000000, 0x7f7fffff, 0xff7fffff,
	} {
		l = append(l, single(b))
	}
	return l
}

// mixer makes numbers that have no pattern, the same in every run.
type mixer struct{ state uint64 }

func (m *mixer) next() uint32 {
	m.state += 0x9e3779b97f4a7c15
	z := m.state
	z = (z ^ z>>30) * 0xbf58476d1ce4e5b9
	z = (z ^ z>>27) * 0x94d049bb133111eb
	return uint32(z >> 32)
}

// below returns an integer from 0 to below n.
func (m *mixer) below(n int) int { return int(m.next()>>1) % n }

// plain returns a number of moderate size, of either sign.
func (m *mixer) plain() float32 {
	return single(m.next()&0x80000000 | (122+m.next()%8)<<23 | m.next()>>9)
}

// between returns a number from low to high.
func (m *mixer) between(low, high float32) float32 {
	return low + float32((high-low)*float32(m.next()>>8)*0x1p-24)
}

// wild returns a number of moderate size, or an oddity.
func (m *mixer) wild() float32 {
	if odd := oddities(); m.below(4) == 0 {
		return odd[m.below(len(odd))]
	}
	return m.plain()
}

// three returns three of what value makes.
func three(value func() float32) [3]float32 { return [3]float32{value(), value(), value()} }

// pixel returns a pixel of what value makes.
func pixel(value func() float32) api.Pixel {
	return api.Pixel{value(), value(), value(), value()}
}

// exponent is a number from 0.0625 to 16, often 1.
func (m *mixer) exponent() float32 {
	if m.below(3) == 0 {
		return 1
	}
	return m.between(0.0625, 16)
}

func (m *mixer) wheels() api.Wheels {
	return api.Wheels{Lift: three(m.plain), Gamma: three(m.exponent), Gain: three(m.plain)}
}

func (m *mixer) list() api.CDL {
	return api.CDL{
		Slope: three(func() float32 { return m.between(0, 2) }), Offset: three(func() float32 { return m.between(-0.5, 0.5) }),
		Power: three(m.exponent), Saturation: float32(m.below(9)) / 2,
	}
}

// curve returns a curve with n points, some of which are level.
func (m *mixer) curve(kind, n int) api.Curve {
	c := api.Curve{Kind: kind}
	x, y := m.plain(), m.plain()
	for range n {
		c.X, c.Y = append(c.X, x), append(c.Y, y)
		x += m.between(0.01, 1)
		if m.below(4) > 0 {
			y += m.plain()
		}
	}
	return c
}

// curves are four of them, some without points.
func (m *mixer) curves() [4]api.Curve {
	var l [4]api.Curve
	for i := range l {
		if m.below(3) > 0 {
			l[i] = m.curve(1+m.below(2), 2+m.below(6))
		}
	}
	return l
}

func (m *mixer) rows() api.Mixer {
	var l api.Mixer
	for i := range l.Rows {
		l.Rows[i] = m.plain()
	}
	return l
}

func (m *mixer) points() [3]int { return [3]int{m.below(51), m.below(51), m.below(51)} }

// grade returns a grade of that kind.
func (m *mixer) grade(kind int) api.Grade {
	g := api.Grade{Kind: kind}
	switch kind {
	case api.GradeWheels:
		g.Wheels = m.wheels()
	case api.GradeList:
		g.CDL = m.list()
	case api.GradeCurves:
		g.Curves = m.curves()
	case api.GradeMixer:
		g.Mixer = m.rows()
	case api.GradeContrast:
		g.Pivot, g.Amount = m.plain(), m.plain()
	case api.GradePrinter:
		g.Points = m.points()
	}
	return g
}

// grades returns a list of grades of all kinds.
func (m *mixer) grades(n int) []api.Grade {
	var l []api.Grade
	for range n {
		l = append(l, m.grade(1+m.below(6)))
	}
	return l
}

// frame returns a frame of wild pixels.
func (m *mixer) frame(x, y, w, h int) api.Frame {
	f := api.Frame{Region: api.Region{X: x, Y: y, W: w, H: h}}
	for range 4 * w * h {
		f.V = append(f.V, m.wild())
	}
	return f
}

// clean is what results have in place of v, by its bits.
func clean(v float32) uint32 {
	if v != v {
		return nanBits
	}
	return math.Float32bits(v)
}

// Doubles hold sums and products of two singles, and quotients, well enough to
// be rounded once more.
func add(a, b float32) float32 { return float32(float64(a) + float64(b)) }
func sub(a, b float32) float32 { return float32(float64(a) - float64(b)) }
func mul(a, b float32) float32 { return float32(float64(a) * float64(b)) }
func div(a, b float32) float32 { return float32(float64(a) / float64(b)) }

// check tells of a result that has not the bits of want (the NaN for any NaN).
func check(t *testing.T, got, want float32, what ...any) {
	t.Helper()
	if math.Float32bits(got) != clean(want) {
		t.Errorf("%v: got %v (%08x), want %v (%08x)", what, got, math.Float32bits(got), want, clean(want))
	}
}

// checkList does so for lists.
func checkList(t *testing.T, got, want []float32, what ...any) {
	t.Helper()
	if len(got) != len(want) {
		t.Errorf("%v: %d singles, want %d", what, len(got), len(want))
		return
	}
	for i, v := range got {
		if math.Float32bits(v) != clean(want[i]) {
			t.Errorf("%v: got %v, want %v (number %d: %08x, want %08x)", what, got, want, i, math.Float32bits(v), clean(want[i]))
			return
		}
	}
}

func checkPixel(t *testing.T, got, want api.Pixel, what ...any) {
	t.Helper()
	checkList(t, got[:], want[:], what...)
}

// checkError tells of an error that is not want.
func checkError(t *testing.T, got, want api.Errno, what ...any) {
	t.Helper()
	if got != want {
		t.Errorf("%v: error %d, want %d", what, got, want)
	}
}

// refused tells of a call that has not this error, or a result beside it.
func refused(t *testing.T, got any, e, want api.Errno, what ...any) {
	t.Helper()
	v := reflect.ValueOf(got)
	nothing := v.IsZero() || v.Kind() == reflect.Slice && v.Len() == 0
	if f, ok := got.(api.Frame); ok {
		nothing = f.Region == api.Region{} && len(f.V) == 0
	}
	if e != want || !nothing {
		t.Errorf("%v: got %v, error %d, want %d", what, got, e, want)
	}
}

// bits tells everything of grades but whether slices are nil: two lists are the
// same if their bits are.
func bits(l ...api.Grade) []uint32 {
	out := []uint32{}
	put := func(values ...float32) {
		out = append(out, uint32(len(values)))
		for _, v := range values {
			out = append(out, num.Bits(v))
		}
	}
	for _, g := range l {
		out = append(out, uint32(g.Kind))
		for _, c := range g.Curves {
			out = append(out, uint32(c.Kind))
			put(c.X...)
			put(c.Y...)
		}
		for _, row := range [][3]float32{g.Wheels.Lift, g.Wheels.Gamma, g.Wheels.Gain, g.CDL.Slope, g.CDL.Offset, g.CDL.Power} {
			put(row[:]...)
		}
		put(g.CDL.Saturation, g.Pivot, g.Amount)
		put(g.Mixer.Rows[:]...)
		for _, n := range g.Points {
			out = append(out, uint32(n))
		}
	}
	return out
}

// checkGrades tells of a list that has not the bits of want.
func checkGrades(t *testing.T, got, want []api.Grade, what ...any) {
	t.Helper()
	a, b := bits(got...), bits(want...)
	if len(got) != len(want) || !reflect.DeepEqual(a, b) {
		t.Errorf("%v: got %v, want %v", what, got, want)
	}
}

// spare gives a list unused capacity, and tells whether anything has changed.
func spare(l []float32) ([]float32, func() bool) {
	all := append(append([]float32{}, l...), 7, single(0xffc00001), 9)
	was := append([]float32{}, all...)
	return all[:len(l)], func() bool {
		for i := range all {
			if math.Float32bits(all[i]) != math.Float32bits(was[i]) {
				return true
			}
		}
		return false
	}
}

// scribble writes over a list and its unused capacity.
func scribble(l []float32) {
	l = l[:cap(l)]
	for i := range l {
		l[i] = 77
	}
}
