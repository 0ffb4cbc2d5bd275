package num_test

import (
	"testing"

	"dyehouse/api"
	"dyehouse/num"
)

// wantSum adds in halves; a double holds the sum of two singles well enough to be rounded once.
func wantSum(l []float32) float32 {
	if len(l) == 0 {
		return 0
	}
	if len(l) == 1 {
		return l[0]
	}
	n := len(l) / 2
	return float32(float64(wantSum(l[:n])) + float64(wantSum(l[n:])))
}

func TestP10Sum(t *testing.T) {
	tiny, zero, inf := float32(0x1p-24), single(0x80000000), infinity()
	check(t, num.Sum(nil), 0, "Sum of nil")
	check(t, num.Sum([]float32{}), 0, "Sum of nothing")
	for _, c := range []struct {
		l    []float32
		want float32
	}{
		{[]float32{5}, 5}, {[]float32{zero}, zero}, {[]float32{single(0xff800001)}, single(nanBits)}, {[]float32{-inf}, -inf},
		{[]float32{zero, zero}, zero}, {[]float32{zero, 0}, 0}, {[]float32{1, 2, 3}, 6},
		{[]float32{1, tiny, tiny}, 0x1.000002p0},             // the first one, and the two others
		{[]float32{tiny, tiny, 1}, 1},                        // likewise
		{[]float32{tiny, tiny, tiny, 1, tiny}, 0x1.000002p0}, // two, and three
		{[]float32{1, tiny, tiny, tiny, tiny}, 0x1.000004p0}, // two, and three
		{[]float32{inf, -inf}, single(nanBits)}, {[]float32{1, inf, 2}, inf}, {[]float32{1, single(0xffc00001), 2}, single(nanBits)},
		{[]float32{3e38, 3e38, -3e38, -3e38}, single(nanBits)}, {[]float32{3e38, -3e38, 3e38, -3e38}, 0},
	} {
		check(t, num.Sum(c.l), c.want, "Sum", c.l)
	}
	m := mixer{}
	for n := range 200 {
		var l []float32
		for range n {
			l = append(l, m.plain())
		}
		l, changed := spare(l)
		check(t, num.Sum(l), wantSum(l), "Sum of", n)
		if changed() {
			t.Error("Sum changed its argument")
		}
	}
}

func TestP10Mean(t *testing.T) {
	inf := infinity()
	for _, c := range []struct {
		l    []float32
		want float32
	}{
		{[]float32{5}, 5}, {[]float32{single(0x80000000)}, single(0x80000000)}, {[]float32{1, 2, 3}, 2}, {[]float32{1, 2}, 1.5},
		{[]float32{1, 0, 0}, 0.33333334}, {[]float32{inf, -inf}, single(nanBits)}, {[]float32{inf, 1}, inf},
		{[]float32{single(0xff800001)}, single(nanBits)}, {[]float32{3e38, 3e38}, inf}, {[]float32{1e-45, 0}, 0},
	} {
		got, e := num.Mean(c.l)
		check(t, got, c.want, "Mean", c.l)
		if e != api.OK {
			t.Errorf("Mean of %v: error %d", c.l, e)
		}
	}
	m := mixer{}
	for n := 1; n < 200; n++ {
		var l []float32
		for range n {
			l = append(l, m.plain())
		}
		l, changed := spare(l)
		got, _ := num.Mean(l)
		check(t, got, float32(float64(wantSum(l))/float64(n)), "Mean of", n)
		if changed() {
			t.Error("Mean changed its argument")
		}
	}
}

func TestP10Middle(t *testing.T) {
	nan, zero, inf := single(0xffc00001), single(0x80000000), infinity()
	for _, c := range []struct {
		l    []float32
		want float32
	}{
		{[]float32{5}, 5}, {[]float32{2, 1}, 1}, {[]float32{3, 1, 2}, 2}, {[]float32{4, 3, 2, 1}, 2}, {[]float32{5, 1, 4, 2, 3}, 3},
		{[]float32{-1, -3, -2}, -2}, {[]float32{0, zero}, zero}, {[]float32{zero, 0}, zero}, {[]float32{0, zero, 0}, 0}, {[]float32{0, zero, zero}, zero},
		{[]float32{inf, -inf}, -inf}, {[]float32{inf, 0, -inf}, 0}, {[]float32{single(1), single(0x80000001), 0}, 0},
		{[]float32{nan, 3, 1, 2}, 2}, {[]float32{nan, 1}, 1}, {[]float32{nan, inf}, inf}, {[]float32{nan, nan, 1}, nan},
		{[]float32{nan}, nan}, {[]float32{single(0x7f800001), nan, -inf, inf}, inf}, {[]float32{single(0xff800001), 2, single(0xffffffff), 1, 3}, 3},
	} {
		l, changed := spare(c.l)
		got, e := num.Middle(l)
		check(t, got, c.want, "Middle", c.l)
		if e != api.OK || changed() {
			t.Errorf("Middle of %v: error %d, changed %v", c.l, e, changed())
		}
	}
	m := mixer{}
	for n := 1; n < 100; n++ {
		var l []float32
		for range n {
			l = append(l, m.plain())
		}
		l, changed := spare(l)
		got, _ := num.Middle(l)
		below, at := 0, 0
		for _, v := range l {
			if v < got {
				below++
			}
			if v == got {
				at++
			}
		}
		if place := (n - 1) / 2; place < below || place >= below+at || changed() {
			t.Errorf("Middle of %d: %d below, %d like it; changed %v", n, below, at, changed())
		}
	}
}

func TestP10Errors(t *testing.T) {
	for _, l := range [][]float32{nil, {}} {
		if v, e := num.Mean(l); v != 0 || e != api.ErrEmpty {
			t.Errorf("Mean of nothing: %v %d", v, e)
		}
		if v, e := num.Middle(l); v != 0 || e != api.ErrEmpty {
			t.Errorf("Middle of nothing: %v %d", v, e)
		}
	}
}
