package scope_test

import (
	"math"
	"testing"

	"dyehouse/api"
	"dyehouse/num"
	"dyehouse/scope"
)

// pair returns two frames of one region, which share many singles.
func (m *mixer) pair() (api.Frame, api.Frame) {
	a := m.counted()
	b := frameOf(a.Region, []func() float32{m.rare, m.wild, m.share, m.any}[m.below(4)])
	many := m.below(4)
	for i, v := range a.V {
		switch m.below(4) {
		case 0:
			b.V[i] = []float32{v, above(v), below(v), -v, nan()}[m.below(5)]
		default:
			if many > 0 {
				b.V[i] = v
			}
		}
	}
	return a, b
}

// wantDifferences are those of all singles.
func wantDifferences(a, b api.Frame) []float32 {
	var l []float32
	for i, v := range a.V {
		d := float32(0)
		if clean(v) != clean(b.V[i]) {
			d = magnitude(sub(v, b.V[i]))
		}
		l = append(l, d)
	}
	return l
}

// wantPeak is the greatest of them, and its place.
func wantPeak(a, b api.Frame) (float32, api.Point) {
	l := wantDifferences(a, b)
	s := sorted(l)
	peak := s[len(s)-1]
	for i, d := range l {
		if clean(d) == clean(peak) {
			return peak, api.Point{X: a.X + i/4%a.W, Y: a.Y + i/4/a.W}
		}
	}
	panic("no single has the greatest difference")
}

// wantNoise is 10 times a logarithm to the base 10.
func wantNoise(a, b api.Frame, peak float32) float32 {
	l := wantDifferences(a, b)
	for i, d := range l {
		l[i] = mul(d, d)
	}
	m := wantMean(l)
	if m == 0 {
		return infinity()
	}
	return mul(10, div(num.Log2(div(mul(peak, peak), m)), num.Log2(10)))
}

func TestP159PeakAndMean(t *testing.T) {
	m := mixer{}
	for range 5000 {
		a, b := m.pair()
		got, at, e := scope.Peak(a, b)
		want, place := wantPeak(a, b)
		checkError(t, e, api.OK, "Peak")
		check(t, got, want, "Peak", a, b)
		if at != place {
			t.Error("Peak is at", at, "and not at", place, a, b)
		}
		got, e = scope.Mean(a, b)
		checkError(t, e, api.OK, "Mean")
		check(t, got, wantMean(wantDifferences(a, b)), "Mean", a, b)
	}
}

func TestP159Noise(t *testing.T) {
	m := mixer{}
	for range 5000 {
		a, b := m.pair()
		peak := []float32{1, 255, least, greatest, m.between(0.001, 2), 0x1p-70}[m.below(6)]
		got, e := scope.Noise(a, b, peak)
		checkError(t, e, api.OK, "Noise")
		check(t, got, wantNoise(a, b, peak), "Noise", a, b, peak)
	}
}

// What two singles differ by: three of four singles of each row are the same.
func TestP159Differences(t *testing.T) {
	inf := infinity()
	for _, c := range []struct{ a, b, want float32 }{
		{0, 0, 0}, {0, minusZero(), 0}, {1, 1, 0}, {1, 3, 2}, {-1, 3, 4}, {-3, 1, 4}, {-3, -1, 2}, {0.1, 0.3, sub(0.3, 0.1)},
		{nan(), oddNaN(), 0}, {-nan(), nan(), 0}, {inf, inf, 0}, {-inf, -inf, 0}, {inf, -inf, inf}, {inf, 1, inf}, {-inf, 1, inf},
		{nan(), 1, nan()}, {nan(), inf, nan()}, {oddNaN(), 0, nan()}, {greatest, -greatest, inf}, {least, -least, 2 * least}, {1, above(1), 0x1p-23},
	} {
		for _, pair := range [][2]float32{{c.a, c.b}, {c.b, c.a}} {
			a, b := row(pair[0]), row(pair[1])
			got, at, e := scope.Peak(a, b)
			checkError(t, e, api.OK, "Peak")
			check(t, got, c.want, "Peak", pair)
			if at != (api.Point{}) {
				t.Error("Peak", pair, "is at", at)
			}
			got, e = scope.Mean(a, b)
			checkError(t, e, api.OK, "Mean")
			check(t, got, c.want/4, "Mean", pair)
		}
	}
}

func TestP159PeakOfSome(t *testing.T) {
	inf := infinity()
	zeros := frameOf(api.Region{X: -7, Y: 9, W: 3, H: 2}, func() float32 { return 0 })
	for _, c := range []struct {
		at   map[int]float32
		want float32
		x, y int
	}{
		{nil, 0, -7, 9},
		{map[int]float32{0: minusZero(), 5: minusZero()}, 0, -7, 9},
		{map[int]float32{3: 0.5}, 0.5, -7, 9},
		{map[int]float32{4: least}, least, -6, 9},
		{map[int]float32{4: 1, 11: -2, 12: 2, 20: 2}, 2, -5, 9},
		{map[int]float32{0: 1, 12: -1, 13: 1.5}, 1.5, -7, 10},
		{map[int]float32{0: 1, 16: inf, 20: -inf}, inf, -6, 10},
		{map[int]float32{0: inf, 1: -inf, 23: oddNaN()}, nan(), -5, 10},
		{map[int]float32{0: inf, 15: nan(), 23: oddNaN()}, nan(), -7, 10},
		{map[int]float32{7: nan(), 8: inf, 23: oddNaN()}, nan(), -6, 9},
	} {
		other := frameOf(zeros.Region, func() float32 { return 0 })
		for i, v := range c.at {
			other.V[i] = v
		}
		for _, pair := range [][2]api.Frame{{zeros, other}, {other, zeros}} {
			got, at, e := scope.Peak(pair[0], pair[1])
			checkError(t, e, api.OK, "Peak")
			check(t, got, c.want, c.at)
			if at != (api.Point{X: c.x, Y: c.y}) {
				t.Error(c.at, "Peak is at", at)
			}
		}
	}
}

func TestP159NoiseOfSome(t *testing.T) {
	inf := infinity()
	for _, c := range []struct {
		by, peak, want float32 // by: the difference of all singles
	}{
		{0, 1, inf}, {0, greatest, inf}, {0, least, inf},
		{0x1p-80, 1, inf},                                     // its square is 0
		{1, 1, 0}, {0.5, 0.5, 0}, {8, 8, 0}, {0.5, 1, 6.0206}, // 10 times the logarithm of 4
		{1, 0.5, -6.0206}, {0.25, 1, 12.0412}, {1, 255, 48.1308}, {2, 20, 20}, {0.1, 1, 20},
		{1, 0x1p-80, -inf}, {1, greatest, inf}, {inf, 1, -inf}, {greatest, 1, -inf}, {inf, greatest, nan()}, {nan(), 1, nan()}, {oddNaN(), least, nan()},
	} {
		a := frameOf(api.Region{X: 1, Y: 1, W: 4, H: 2}, func() float32 { return 0 })
		b := frameOf(a.Region, func() float32 { return -c.by })
		for _, pair := range [][2]api.Frame{{a, b}, {b, a}} {
			got, e := scope.Noise(pair[0], pair[1], c.peak)
			checkError(t, e, api.OK, "Noise", c)
			if got != c.want && !(math.Abs(float64(got-c.want)) < 1e-4) && clean(got) != clean(c.want) {
				t.Error("Noise", c, "is", got)
			}
		}
	}
	// The square of the mean is not the mean of the squares.
	a, b := row(0, 0), row(4, 0)
	got, e := scope.Noise(a, b, 4)
	checkError(t, e, api.OK, "Noise")
	if math.Abs(float64(got)-10*math.Log10(8)) > 1e-5 {
		t.Error("Noise", got)
	}
}

// These bits were computed once, apart from this program.
func TestP159NoiseBits(t *testing.T) {
	for _, c := range []struct {
		by, peak float32
		want     uint32
	}{
		{0.5, 1, 0x40c0a8c2}, {0.1, 1, 0x41a00000}, {1, 255, 0x424085f1}, {0.003, 1.5, 0x4257eae8}, {3, 2, 0xc0616595},
	} {
		a := frameOf(api.Region{W: 4, H: 2}, func() float32 { return 0 })
		b := frameOf(a.Region, func() float32 { return c.by })
		got, e := scope.Noise(a, b, c.peak)
		checkError(t, e, api.OK, "Noise")
		check(t, got, single(c.want), "Noise", c)
	}
}

// wantSteps counts how far apart singles are.
func wantSteps(a, b api.Frame) []int {
	l := make([]int, 34)
	for i, v := range a.V {
		w := b.V[i]
		switch {
		case v != v && w != w:
			l[0]++
		case v != v || w != w:
			l[33]++
		default:
			n := key(v) - key(w)
			if n < 0 {
				n = -n
			}
			at := 0
			for n > 0 {
				n /= 2
				at++
			}
			l[at]++
		}
	}
	return l
}

func TestP160Steps(t *testing.T) {
	m := mixer{}
	for range 5000 {
		a, b := m.pair()
		got, e := scope.Steps(a, b)
		checkInts(t, got, e, wantSteps(a, b), "Steps", a, b)
	}
}

func TestP160StepsOfSome(t *testing.T) {
	inf := infinity()
	from := func(n uint32) float32 { return single(0x3f800000 + n) }
	for _, c := range []struct {
		a, b float32
		at   int
	}{
		{1, 1, 0}, {minusZero(), minusZero(), 0}, {nan(), oddNaN(), 0}, {inf, inf, 0}, {0, minusZero(), 1}, {1, above(1), 1}, {greatest, inf, 1}, {-greatest, -inf, 1},
		{least, minusZero(), 2}, {least, -least, 2}, {1, from(2), 2}, {1, from(3), 2}, {1, from(4), 3}, {1, from(7), 3}, {1, from(8), 4}, {1, from(15), 4},
		{1, 2, 24}, {1, below(2), 23}, {1, 4, 25}, {0, 1, 30}, {0, inf, 31}, {minusZero(), inf, 31}, {-inf, 0, 31}, {1, -1, 31}, {-1.5, 2, 31}, {-2, 2, 32}, {-inf, inf, 32}, {-greatest, greatest, 32},
		{single(0x3fffffff), single(0xc0000000), 32}, {single(0x3fffffff), single(0xbfffffff), 31}, {single(0x3fffffff), single(0xbffffffe), 31}, {single(0x40000000), single(0xbfffffff), 32},
		{nan(), 1, 33}, {oddNaN(), inf, 33}, {-inf, nan(), 33}, {0, -nan(), 33},
	} {
		want := make([]int, 34)
		want[0] = 3
		want[c.at]++
		for _, pair := range [][2]float32{{c.a, c.b}, {c.b, c.a}} {
			got, e := scope.Steps(row(pair[0]), row(pair[1]))
			checkInts(t, got, e, want, pair)
		}
	}
}

// wantChanged is the region and number of the pixels that differ.
func wantChanged(a, b api.Frame) (api.Region, int) {
	many, columns, rows := 0, map[int]bool{}, map[int]bool{}
	for y := a.Y; y < a.Y+a.H; y++ {
		for x := a.X; x < a.X+a.W; x++ {
			p, q, is := pixelAt(a, x, y), pixelAt(b, x, y), false
			for i, v := range p {
				is = is || clean(v) != clean(q[i])
			}
			if is {
				columns[x], rows[y] = true, true
				many++
			}
		}
	}
	if many == 0 {
		return api.Region{}, 0
	}
	r := a.Region
	for ; !columns[r.X]; r.W-- {
		r.X++
	}
	for ; !columns[r.X+r.W-1]; r.W-- {
	}
	for ; !rows[r.Y]; r.H-- {
		r.Y++
	}
	for ; !rows[r.Y+r.H-1]; r.H-- {
	}
	return r, many
}

func TestP160Changed(t *testing.T) {
	m := mixer{}
	for n := range 5000 {
		a, b := m.pair()
		if n%2 == 0 { // few singles differ
			b.V = append([]float32(nil), a.V...)
			for range m.below(4) {
				i := m.below(len(b.V))
				b.V[i] = m.wild()
			}
		}
		got, many, e := scope.Changed(a, b)
		r, want := wantChanged(a, b)
		if got != r || many != want || e != api.OK {
			t.Error("Changed", got, many, e, "want", r, want, a, b)
		}
	}
}

func TestP160ChangedOfSome(t *testing.T) {
	r := api.Region{X: -2, Y: far - 3, W: 4, H: 3}
	a := frameOf(r, func() float32 { return 0 })
	a.V[16] = nan()
	for _, c := range []struct {
		at   map[int]float32 // singles that are others
		want api.Region
		many int
	}{
		{nil, api.Region{}, 0},
		{map[int]float32{16: oddNaN()}, api.Region{}, 0},
		{map[int]float32{0: minusZero()}, api.Region{X: -2, Y: far - 3, W: 1, H: 1}, 1},
		{map[int]float32{0: 1, 1: 2, 2: 3, 3: 4}, api.Region{X: -2, Y: far - 3, W: 1, H: 1}, 1},
		{map[int]float32{3: nan(), 7: nan()}, api.Region{X: -2, Y: far - 3, W: 2, H: 1}, 2},
		{map[int]float32{47: least}, api.Region{X: 1, Y: far - 1, W: 1, H: 1}, 1},
		{map[int]float32{47: least, 1: 1}, r, 2},
		{map[int]float32{12: 1, 34: 1}, r, 2},
		{map[int]float32{16: 1}, api.Region{X: -2, Y: far - 2, W: 1, H: 1}, 1},
		{map[int]float32{21: 1, 36: 1, 24: 1}, api.Region{X: -1, Y: far - 2, W: 2, H: 2}, 3},
		{map[int]float32{10: 1, 41: 1}, api.Region{X: 0, Y: far - 3, W: 1, H: 3}, 2},
	} {
		b := api.Frame{Region: r, V: append([]float32(nil), a.V...)}
		for i, v := range c.at {
			b.V[i] = v
		}
		for _, pair := range [][2]api.Frame{{a, b}, {b, a}} {
			got, many, e := scope.Changed(pair[0], pair[1])
			if got != c.want || many != c.many || e != api.OK {
				t.Error(c.at, "Changed", got, many, e, "want", c.want, c.many)
			}
		}
	}
}

// wantSpread is the mean of l, and how far from it its values are in the mean.
func wantSpread(l []float32) (float32, float32) {
	mean := wantMean(l)
	var distances []float32
	for _, v := range l {
		distances = append(distances, magnitude(sub(v, mean)))
	}
	return mean, wantMean(distances)
}

// wantMatch is what brings the values of a to those of b.
func wantMatch(a, b []float32) (float32, float32) {
	ma, sa := wantSpread(a)
	mb, sb := wantSpread(b)
	factor := div(sb, sa)
	if sa == 0 {
		factor = 1
	}
	return factor, sub(mb, mul(ma, factor))
}

func TestP160Match(t *testing.T) {
	m := mixer{}
	for n := range 5000 {
		a, b := m.pair()
		if n%2 == 0 { // frames of numbers
			a, b = frameOf(a.Region, m.plain), frameOf(a.Region, m.share)
		}
		factors, offsets, e := scope.Match(a, b)
		checkError(t, e, api.OK, "Match")
		for channel := range 3 {
			factor, offset := wantMatch(valuesOf(a, channel), valuesOf(b, channel))
			check(t, factors[channel], factor, "Match, factor", channel, a, b)
			check(t, offsets[channel], offset, "Match, offset", channel, a, b)
		}
	}
}

func TestP160MatchOfSome(t *testing.T) {
	inf := infinity()
	for _, c := range []struct {
		a, b           []float32
		factor, offset float32
	}{
		{[]float32{0, 2}, []float32{1, 5}, 2, 1}, {[]float32{2, 0}, []float32{1, 5}, 2, 1}, {[]float32{1, 5}, []float32{0, 2}, 0.5, -0.5},
		{[]float32{3}, []float32{5}, 1, 2}, {[]float32{3, 3}, []float32{5, 9}, 1, 4}, {[]float32{5, 9}, []float32{3, 3}, 0, 3},
		{[]float32{1, 3}, []float32{3, 1}, 1, 0}, {[]float32{0, 0, 0, 4}, []float32{1, 1, 5, 1}, 1, 1},
		{[]float32{inf, 1}, []float32{0, 2}, nan(), nan()}, {[]float32{0, 2}, []float32{inf, 1}, nan(), nan()}, {[]float32{nan(), 1}, []float32{1, 1}, nan(), nan()},
		{[]float32{1, 1}, []float32{oddNaN(), 1}, 1, nan()}, {[]float32{1, 1}, []float32{inf, 1}, 1, inf},
		{[]float32{0, 2 * least}, []float32{0, 2}, inf, -inf}, {[]float32{-least, least}, []float32{0, 2}, inf, nan()},
	} {
		factors, offsets, e := scope.Match(row(c.a...), row(c.b...))
		checkError(t, e, api.OK, "Match", c)
		checkList(t, factors[:], []float32{c.factor, 1, 1}, "factors", c)
		checkList(t, offsets[:], []float32{c.offset, 0, 0}, "offsets", c)
	}
	// Each colour has its own; alpha none.
	a := api.Frame{Region: api.Region{W: 1, H: 2}, V: []float32{0, 0, 1, 9, 2, 4, 3, 8}}
	b := api.Frame{Region: api.Region{W: 1, H: 2}, V: []float32{1, 7, 2, 0, 3, 5, 2, 50}}
	factors, offsets, e := scope.Match(a, b)
	if e != api.OK || factors != [3]float32{1, 0.5, 0} || offsets != [3]float32{1, 5, 2} {
		t.Error("Match", factors, offsets, e)
	}
}

// refusedPairs tells of results beside this error of two frames.
func refusedPairs(t *testing.T, a, b api.Frame, want api.Errno) {
	t.Helper()
	v, at, e := scope.Peak(a, b)
	refused(t, v, e, want, "Peak", a.Region, b.Region)
	refused(t, at, e, want, "Peak", a.Region, b.Region)
	v, e = scope.Mean(a, b)
	refused(t, v, e, want, "Mean", a.Region, b.Region)
	for _, peak := range []float32{1, 0, oddNaN()} {
		v, e = scope.Noise(a, b, peak)
		refused(t, v, e, want, "Noise", a.Region, b.Region, peak)
	}
	l, e := scope.Steps(a, b)
	refusedList(t, l, e, want, "Steps", a.Region, b.Region)
	r, n, e := scope.Changed(a, b)
	refused(t, r, e, want, "Changed", a.Region, b.Region)
	refused(t, n, e, want, "Changed", a.Region, b.Region)
	factors, offsets, e := scope.Match(a, b)
	refused(t, factors, e, want, "Match", a.Region, b.Region)
	refused(t, offsets, e, want, "Match", a.Region, b.Region)
}

func TestP159P160Errors(t *testing.T) {
	good := row(1, 2, 3, 4, 5, 6)
	for _, c := range badFrames() {
		refusedPairs(t, c.frame, good, c.error)
		refusedPairs(t, good, c.frame, c.error)
		refusedPairs(t, c.frame, c.frame, c.error)
		if c.error != api.ErrForm {
			refusedPairs(t, c.frame, api.Frame{Region: api.Region{W: 1, H: 1}}, c.error)
			refusedPairs(t, api.Frame{Region: api.Region{W: 1, H: 1}}, c.frame, api.ErrForm)
		}
	}
	for _, r := range []api.Region{{X: 1, W: 6, H: 1}, {Y: -1, W: 6, H: 1}, {W: 3, H: 2}, {W: 1, H: 6}, {W: 6, H: 2}, {W: 7, H: 1}, {X: far - 6, Y: -far, W: 6, H: 1}} {
		other := frameOf(r, func() float32 { return 1 })
		refusedPairs(t, good, other, api.ErrPlace)
		refusedPairs(t, other, good, api.ErrPlace)
	}
	for _, v := range noNumbers() {
		got, e := scope.Noise(good, good, v)
		refused(t, got, e, api.ErrForm, "Noise", v)
	}
	for _, v := range []float32{0, minusZero(), -least, -1, -greatest} {
		got, e := scope.Noise(good, good, v)
		refused(t, got, e, api.ErrRange, "Noise", v)
	}
}
