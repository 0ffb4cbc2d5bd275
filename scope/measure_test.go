package scope_test

import (
	"cmp"
	"math"
	"slices"
	"testing"

	"dyehouse/api"
	"dyehouse/scope"
)

// key is where v stands in the order of singles; the NaN stands behind all others.
func key(v float32) int {
	b := int(clean(v))
	switch {
	case v != v:
		return math.MaxInt
	case b>>31 == 1:
		return -(b & 0x7fffffff) - 1
	}
	return b
}

// sorted is l in that order.
func sorted(l []float32) []float32 {
	s := slices.Clone(l)
	slices.SortFunc(s, func(a, b float32) int { return cmp.Compare(key(a), key(b)) })
	return s
}

// wantExtent is that of values.
func wantExtent(l []float32) api.Extent {
	var some []float32
	for _, v := range l {
		if v == v {
			some = append(some, v)
		}
	}
	x := api.Extent{Mean: wantMean(some), Out: len(l) - len(some)}
	if len(some) > 0 {
		s := sorted(some)
		x.Least, x.Greatest = s[0], s[len(s)-1]
	}
	return x
}

// checkExtent tells of an extent that is not want.
func checkExtent(t *testing.T, got api.Extent, e api.Errno, want api.Extent, what ...any) {
	t.Helper()
	checkError(t, e, api.OK, what...)
	checkList(t, []float32{got.Least, got.Greatest, got.Mean}, []float32{want.Least, want.Greatest, want.Mean}, what...)
	if got.Out != want.Out {
		t.Errorf("%v: %d left out, want %d", what, got.Out, want.Out)
	}
}

func TestP158Extent(t *testing.T) {
	m := mixer{}
	for range 3000 {
		f := m.counted()
		for channel := range 5 {
			got, e := scope.Extent(f, channel)
			checkExtent(t, got, e, wantExtent(valuesOf(f, channel)), "Extent", f.Region, channel)
		}
	}
	f := frameOf(api.Region{X: far - 128, Y: 2, W: 128, H: 128}, m.share)
	got, e := scope.Extent(f, 4)
	checkExtent(t, got, e, wantExtent(valuesOf(f, 4)), "Extent")
}

func TestP158ExtentOfSome(t *testing.T) {
	inf, zero := infinity(), minusZero()
	for _, c := range []struct {
		red  []float32
		want api.Extent
	}{
		{[]float32{5}, api.Extent{Least: 5, Greatest: 5, Mean: 5}},
		{[]float32{nan()}, api.Extent{Out: 1}},
		{[]float32{nan(), oddNaN(), -nan()}, api.Extent{Out: 3}},
		{[]float32{nan(), zero, oddNaN()}, api.Extent{Least: zero, Greatest: zero, Mean: zero, Out: 2}},
		{[]float32{0, zero}, api.Extent{Least: zero}}, {[]float32{zero, 0}, api.Extent{Least: zero}},
		{[]float32{zero, zero, -1}, api.Extent{Least: -1, Greatest: zero, Mean: -1 / float32(3)}},
		{[]float32{0, 0, 1, nan()}, api.Extent{Greatest: 1, Mean: 1 / float32(3), Out: 1}},
		{[]float32{inf, 1, -inf}, api.Extent{Least: -inf, Greatest: inf, Mean: nan()}},
		{[]float32{inf, 1, nan()}, api.Extent{Least: 1, Greatest: inf, Mean: inf, Out: 1}},
		{[]float32{greatest, greatest}, api.Extent{Least: greatest, Greatest: greatest, Mean: inf}},
		{[]float32{least, -least, 0}, api.Extent{Least: -least, Greatest: least}},
		// The sums are those of halves: 2^24 + (1 + 1), but 1 + (1 + 2^24).
		{[]float32{0x1p24, nan(), 1, 1}, api.Extent{Least: 1, Greatest: 0x1p24, Mean: float32(0x1p24+2) / 3, Out: 1}},
		{[]float32{1, nan(), 1, 0x1p24}, api.Extent{Least: 1, Greatest: 0x1p24, Mean: float32(0x1p24) / 3, Out: 1}},
	} {
		got, e := scope.Extent(row(c.red...), 0)
		checkExtent(t, got, e, c.want, c.red)
	}
	f := api.Frame{Region: api.Region{W: 2, H: 1}, V: []float32{1, 2, 3, 4, 5, 6, 7, oddNaN()}}
	for channel, want := range []api.Extent{{Least: 1, Greatest: 5, Mean: 3}, {Least: 2, Greatest: 6, Mean: 4}, {Least: 3, Greatest: 7, Mean: 5}, {Least: 4, Greatest: 4, Mean: 4, Out: 1}} {
		got, e := scope.Extent(f, channel)
		checkExtent(t, got, e, want, "channel", channel)
	}
}

func TestP158Rank(t *testing.T) {
	m := mixer{}
	for n := range 3030 {
		f, part := m.counted(), n%101
		for channel := range 5 {
			l := sorted(valuesOf(f, channel))
			got, e := scope.Rank(f, channel, part)
			checkError(t, e, api.OK, "Rank")
			check(t, got, l[(len(l)-1)*part/100], "Rank", f.Region, channel, part)
		}
	}
	f := frameOf(api.Region{W: 128, H: 128}, m.any)
	l := sorted(valuesOf(f, 2))
	for part := range 101 {
		got, e := scope.Rank(f, 2, part)
		checkError(t, e, api.OK, "Rank")
		check(t, got, l[16383*part/100], "Rank", part)
	}
}

func TestP158RankOfSome(t *testing.T) {
	inf := infinity()
	f := row(nan(), 3, 0, -inf, minusZero(), oddNaN(), -2, inf, least, -least, 1)
	want := []float32{-inf, -2, -least, minusZero(), 0, least, 1, 3, inf, nan(), nan()}
	for part := range 101 {
		got, e := scope.Rank(f, 0, part)
		checkError(t, e, api.OK, "Rank")
		check(t, got, want[part/10], "Rank", part)
	}
	for part := range 101 {
		got, e := scope.Rank(row(oddNaN()), 0, part)
		checkError(t, e, api.OK, "Rank")
		check(t, got, nan(), "Rank of a NaN", part)
		got, e = scope.Rank(row(2, 1), 0, part)
		checkError(t, e, api.OK, "Rank")
		check(t, got, float32(1+part/100), "Rank of two", part)
	}
}

// wantOdd counts the kinds of singles by their bits.
func wantOdd(l []float32) api.Odd {
	var o api.Odd
	for _, v := range l {
		switch b := math.Float32bits(v) << 1; {
		case b == 0:
			o.Zero++
		case b < 0x01000000:
			o.Small++
		case b < 0xff000000:
			o.Normal++
		case b == 0xff000000:
			o.Infinite++
		default:
			o.NaN++
		}
	}
	return o
}

func TestP158Odd(t *testing.T) {
	m := mixer{}
	for range 3000 {
		f := m.counted()
		if got, e := scope.Odd(f); e != api.OK || got != wantOdd(f.V) {
			t.Error("Odd", f, got, e)
		}
	}
	f := api.Frame{Region: api.Region{W: 2, H: 2}, V: []float32{
		0, minusZero(), least, -least, single(0x007fffff), single(0x80000400), 1, -greatest,
		single(0x00800000), 5, 6, infinity(), -infinity(), infinity(), nan(), oddNaN(),
	}}
	if got, e := scope.Odd(f); e != api.OK || got != (api.Odd{Zero: 2, Small: 4, Normal: 5, Infinite: 3, NaN: 2}) {
		t.Error("Odd", got, e)
	}
}

func TestP158Errors(t *testing.T) {
	parts := append(badInts(), -1, 101, 200)
	for _, c := range badFrames() {
		for _, channel := range append(badChannels(), 0, 3, 4) {
			x, e := scope.Extent(c.frame, channel)
			refused(t, x, e, c.error, "Extent", c.frame.Region, channel)
			for _, part := range []int{50, -1} {
				v, e := scope.Rank(c.frame, channel, part)
				refused(t, v, e, c.error, "Rank", c.frame.Region, channel, part)
			}
		}
		o, e := scope.Odd(c.frame)
		refused(t, o, e, c.error, "Odd", c.frame.Region)
	}
	for _, channel := range badChannels() {
		x, e := scope.Extent(row(1, 2), channel)
		refused(t, x, e, api.ErrRange, "Extent", channel)
		v, e := scope.Rank(row(1, 2), channel, 50)
		refused(t, v, e, api.ErrRange, "Rank", channel)
	}
	for _, part := range parts {
		for channel := range 5 {
			v, e := scope.Rank(row(1, 2), channel, part)
			refused(t, v, e, api.ErrRange, "Rank", channel, part)
		}
	}
}
