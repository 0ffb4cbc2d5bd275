package finish_test

import (
	"math"
	"testing"

	"dyehouse/api"
	"dyehouse/finish"
	"dyehouse/num"
)

// badKinds are no ways of dithering.
func badKinds() []int { return append(badInts(), -1, 3, 4, 8, 256) }

// bayer are the numbers of DitherOrdered, row by row.
func bayer() [8][8]int {
	return [8][8]int{
		{0, 32, 8, 40, 2, 34, 10, 42},
		{48, 16, 56, 24, 50, 18, 58, 26},
		{12, 44, 4, 36, 14, 46, 6, 38},
		{60, 28, 52, 20, 62, 30, 54, 22},
		{3, 35, 11, 43, 1, 33, 9, 41},
		{51, 19, 59, 27, 49, 17, 57, 25},
		{15, 47, 7, 39, 13, 45, 5, 37},
		{63, 31, 55, 23, 61, 29, 53, 21},
	}
}

// modulo is what is left of n, from 0 to below by.
func modulo(n, by int) int { return ((n % by) + by) % by }

func TestP140Ordered(t *testing.T) {
	table := bayer()
	ints := append(badInts(), -9, -8, -7, -1, far, -far, math.MinInt+1, math.MaxInt-1)
	for n := range 24 {
		ints = append(ints, n)
	}
	for _, y := range ints {
		for _, x := range ints {
			if got, want := finish.Ordered(x, y), table[modulo(y, 8)][modulo(x, 8)]; got != want {
				t.Errorf("Ordered of %d, %d: %d, want %d", x, y, got, want)
			}
		}
	}
}

func TestP140Offset(t *testing.T) {
	m := mixer{}
	table := bayer()
	for range 20000 {
		seed, x, y, channel := m.next(), int(m.next())-1<<31, m.from(-40, 40), m.from(0, 2)
		if m.below(2) == 0 {
			x, y, channel = y, x<<20, int(m.next())-1<<31
		}
		got, e := finish.Offset(api.DitherNone, seed, x, y, channel)
		checkError(t, e, api.OK, "none")
		check(t, got, 0, "none", x, y)
		got, e = finish.Offset(api.DitherOrdered, seed, x, y, channel)
		checkError(t, e, api.OK, "ordered")
		check(t, got, float32((float64(table[modulo(y, 8)][modulo(x, 8)])+0.5)/64-0.5), "ordered", x, y)
		got, e = finish.Offset(api.DitherHash, seed, x, y, channel)
		checkError(t, e, api.OK, "hash")
		check(t, got, sub(unit(seed, x, y, channel), 0.5), "hash", seed, x, y, channel)
	}
	got, _ := finish.Offset(api.DitherHash, 9, 3, -4, 2)
	check(t, got, single(0x3df7db00), "hash, reckoned by another program")
	for _, how := range badKinds() {
		got, e := finish.Offset(how, 1, 2, 3, 1)
		refused(t, got, e, api.ErrKind, "Offset", how)
	}
}

// wantLevel is what Level returns, for a depth without errors.
func wantLevel(v, offset float32, depth int) int {
	m := float64(int(1)<<depth - 1)
	n := math.RoundToEven(float64(add(mul(v, float32(m)), offset)))
	switch {
	case n != n || n < 0:
		return 0
	case n > m:
		return int(m)
	}
	return int(n)
}

func TestP141Level(t *testing.T) {
	m := mixer{}
	for n := range 200000 {
		v, depth := []func() float32{m.share, m.rare, m.wild, m.any}[n%4](), m.from(1, 16)
		offset := m.between(-0.5, 0.5)
		if m.below(4) == 0 {
			offset = m.wild()
		}
		got, e := finish.Level(v, offset, depth)
		if want := wantLevel(v, offset, depth); got != want || e != api.OK {
			t.Errorf("Level of %v and %v, depth %d: %d, error %d, want %d", v, offset, depth, got, e, want)
		}
	}
}

func TestP141LevelOfSome(t *testing.T) {
	inf := infinity()
	for _, c := range []struct {
		v, offset float32
		depth     int
		want      int
	}{
		{0, 0, 1, 0}, {1, 0, 1, 1}, {0.5, 0, 1, 0}, {above(0.5), 0, 1, 1}, {0.5, 0, 2, 2}, {0.5, 0, 8, 128}, {0.5, 0, 16, 32768}, {0.5, 0, 3, 4}, {below(0.5), 0, 3, 3},
		{1, 0, 16, 65535}, {1, 0.5, 16, 65535}, {1, -0.5, 16, 65534}, {1, -0.5, 8, 254}, {0, 0.5, 8, 0}, {0, above(0.5), 8, 1}, {0, 1.5, 8, 2}, {0, 2.5, 8, 2}, {0, 3, 1, 1}, {0, -0.5, 8, 0}, {minusZero(), minusZero(), 8, 0},
		{2, 0, 8, 255}, {-1, 0, 8, 0}, {inf, 0, 8, 255}, {-inf, 0, 8, 0}, {greatest, greatest, 16, 65535}, {-greatest, 0, 16, 0}, {0, inf, 3, 7}, {0, -inf, 3, 0},
		{oddNaN(), 0, 8, 0}, {1, oddNaN(), 8, 0}, {inf, -inf, 8, 0}, {-inf, inf, 8, 0},
		{2, -255, 8, 255}, {-1, 256, 8, 1}, {1.0 / 255, 0, 8, 1},
		// The product is rounded ahead of the sum, which is 0.5 but for that.
		{0x1.010102p-08, -0.5, 8, 0},
	} {
		got, e := finish.Level(c.v, c.offset, c.depth)
		if got != c.want || e != api.OK {
			t.Errorf("Level of %v: %d, error %d", c, got, e)
		}
	}
	for _, depth := range badDepths() {
		for _, v := range []float32{0.5, oddNaN(), -1} {
			got, e := finish.Level(v, 0, depth)
			refused(t, got, e, api.ErrRange, "Level", v, depth)
		}
	}
}

func TestP141Value(t *testing.T) {
	for depth := 1; depth <= 16; depth++ {
		top := 1<<depth - 1
		for n := 0; n <= top; n++ {
			got, e := finish.Value(n, depth)
			checkError(t, e, api.OK, "Value", n, depth)
			check(t, got, div(float32(n), float32(top)), "Value", n, depth)
		}
		for _, n := range append(badInts(), -1, top+1, 2*top, -top) {
			got, e := finish.Value(n, depth)
			refused(t, got, e, api.ErrRange, "Value", n, depth)
		}
	}
	for _, depth := range badDepths() {
		for _, n := range []int{0, 1, -1, math.MaxInt} {
			got, e := finish.Value(n, depth)
			refused(t, got, e, api.ErrRange, "Value", n, depth)
		}
	}
}

// wantOffset is the offset of a channel.
func wantOffset(how int, seed uint32, x, y, channel int) float32 {
	switch {
	case how == api.DitherNone || channel == 3:
		return 0
	case how == api.DitherOrdered:
		return float32((float64(bayer()[modulo(y, 8)][modulo(x, 8)])+0.5)/64 - 0.5)
	}
	return sub(num.Unit(num.Hash(seed, x, y, channel)), 0.5)
}

func TestP141Levels(t *testing.T) {
	m := mixer{}
	for n := range 600 {
		f, how, seed, depth := frameOf(m.region(), m.rare), n%3, m.next(), m.from(1, 16)
		var want []int
		for i, v := range f.V {
			x, y, channel := f.X+i/4%f.W, f.Y+i/4/f.W, i%4
			want = append(want, wantLevel(v, wantOffset(how, seed, x, y, channel), depth))
		}
		got, e := finish.Levels(f, how, seed, depth)
		checkLevels(t, got, e, want, "Levels", f, how, depth)
	}
}

func TestP141LevelsErrors(t *testing.T) {
	for _, c := range badFrames() {
		for _, how := range []int{0, 5} {
			for _, depth := range []int{8, 0} {
				got, e := finish.Levels(c.frame, how, 0, depth)
				refusedList(t, got, e, c.error, "Levels", c.frame.Region, how, depth)
			}
		}
	}
	for _, how := range badKinds() {
		for _, depth := range []int{8, 0, 17} {
			got, e := finish.Levels(row(1, 2), how, 0, depth)
			refusedList(t, got, e, api.ErrKind, "Levels", how, depth)
		}
	}
	for _, depth := range badDepths() {
		for how := range 3 {
			got, e := finish.Levels(row(1, 2), how, 0, depth)
			refusedList(t, got, e, api.ErrRange, "Levels", how, depth)
		}
	}
}

// levels returns n levels of a depth.
func (m *mixer) levels(n, depth int) []int {
	l := make([]int, n)
	for i := range l {
		l[i] = int(m.next() >> (32 - depth))
	}
	return l
}

func TestP141Frame(t *testing.T) {
	m := mixer{}
	for range 400 {
		r, depth := m.region(), m.from(1, 16)
		l := m.levels(4*r.W*r.H, depth)
		var want []float32
		for _, n := range l {
			want = append(want, div(float32(n), float32(int(1)<<depth-1)))
		}
		got, e := finish.Frame(r, l, depth)
		checkFrame(t, got, e, r, want, "Frame", r, depth)
	}
	for depth := 1; depth <= 16; depth++ {
		top := 1<<depth - 1
		got, e := finish.Frame(api.Region{W: 1, H: 1}, []int{0, top, 0, top}, depth)
		checkFrame(t, got, e, api.Region{W: 1, H: 1}, []float32{0, 1, 0, 1}, "Frame", depth)
	}
}

func TestP141FrameErrors(t *testing.T) {
	for _, r := range badRegions() {
		for _, depth := range []int{8, 0} {
			got, e := finish.Frame(r.Region, []int{-1, 0, 0, 0}, depth)
			refusedFrame(t, got, e, r.error, "Frame", r.Region, depth)
		}
	}
	r := api.Region{X: 1, Y: 2, W: 3, H: 2}
	for _, depth := range badDepths() {
		for _, n := range []int{24, 0, 23} {
			got, e := finish.Frame(r, make([]int, n), depth)
			refusedFrame(t, got, e, api.ErrRange, "Frame", depth, n)
		}
	}
	for _, n := range badLengths(24) {
		l := make([]int, n)
		for i := range l {
			l[i] = -1
		}
		got, e := finish.Frame(r, l, 8)
		refusedFrame(t, got, e, api.ErrForm, "Frame", n)
	}
	for depth := 1; depth <= 16; depth++ {
		for _, n := range append(badInts(), -1, 1<<depth) {
			for _, i := range []int{0, 3, 11, 23} {
				l := make([]int, 24)
				l[i] = n
				got, e := finish.Frame(r, l, depth)
				refusedFrame(t, got, e, api.ErrRange, "Frame", n, i, depth)
			}
		}
	}
}

// What follows: over a square of 8 * 8 pixels the mean is right.
func TestP141MeanOfOrdered(t *testing.T) {
	m := mixer{}
	for n := range 3000 {
		depth, v := m.from(1, 16), m.share()
		switch n % 8 {
		case 0:
			v = float32(n%2) * 1
		case 1:
			v = below(1)
		case 2:
			v = float32(float64(m.below(1<<depth)) / float64(int(1)<<depth-1))
		}
		f := frameOf(api.Region{X: m.from(-50, 50), Y: m.from(-50, 50), W: 8, H: 8}, func() float32 { return v })
		l, e := finish.Levels(f, api.DitherOrdered, 0, depth)
		checkError(t, e, api.OK, "Levels")
		sum, top := 0, float64(int(1)<<depth-1)
		for i := 0; i < len(l); i += 4 {
			sum += l[i]
		}
		if d := math.Abs(float64(sum)/64 - float64(v)*top); d > 1.0/64+0x1p-22*top {
			t.Errorf("the mean of %v, depth %d, is off by %v", v, depth, d)
		}
	}
}
