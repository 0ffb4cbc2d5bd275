package cube_test

import (
	"math"
	"testing"

	"dyehouse/api"
	"dyehouse/cube"
	"dyehouse/num"
)

// wantThrough is what Tetra of c makes of three values.
func wantThrough(c api.Cube, v [3]float32) [3]float32 {
	p := wantTetra(c, api.Pixel{v[0], v[1], v[2], 0})
	return [3]float32(p[:3])
}

// wantValues are those for which an entry of a cube of that size with the ends
// of c stands.
func wantValues(c api.Cube, size int, at [3]int) [3]float32 {
	var v [3]float32
	for i, n := range at {
		v[i] = add(c.Low, mul(sub(c.High, c.Low), div(float32(n), float32(size-1))))
	}
	return v
}

func TestP90Compose(t *testing.T) {
	m := mixer{}
	for i := range 400 {
		b := m.cube(m.wild)
		inside := func() float32 { return m.value(b) }
		a := m.cube(inside)
		if i%20 == 0 {
			a = cubeOf(17, 0, 1, inside)
		}
		c, e := cube.Compose(a, b)
		want := wantEach(a.Size, func(i, j, k int) [3]float32 { return wantThrough(b, at(a, i, j, k)) })
		checkCube(t, c, e, a, a.Size, want, "Compose")
	}
	id, _ := cube.Identity(2)
	for _, nan := range noNumbers()[2:] {
		a := cubeOf(2, -1, 1, func() float32 { return 0.5 })
		a.V[4] = nan
		c, e := cube.Compose(a, id)
		want := append([]float32{0.5, 0.5, 0.5, nan, nan, nan}, a.V[6:]...)
		checkCube(t, c, e, a, 2, want, "Compose of a NaN")
	}
	// First a, and then b.
	twice, _ := cube.FromGrade(2, [3]float32{2, 2, 2}, [3]float32{}, [3]float32{1, 1, 1})
	less, _ := cube.FromGrade(2, [3]float32{1, 1, 1}, [3]float32{-0.5, -0.5, -0.5}, [3]float32{1, 1, 1})
	c, e := cube.Compose(less, twice)
	checkCube(t, c, e, less, 2, wantEach(2, func(i, j, k int) [3]float32 { return [3]float32{float32(i), float32(j), float32(k)} }), "Compose")
	c, e = cube.Compose(twice, less)
	checkCube(t, c, e, less, 2, wantEach(2, func(i, j, k int) [3]float32 { return [3]float32{float32(i) / 2, float32(j) / 2, float32(k) / 2} }), "Compose")
}

func TestP90Resize(t *testing.T) {
	m := mixer{}
	for i := range 400 {
		c, size := m.cube(m.wild), 2+i%7
		if i%100 == 0 {
			size = 17
		}
		d, e := cube.Resize(c, size)
		want := wantEach(size, func(i, j, k int) [3]float32 { return wantThrough(c, wantValues(c, size, [3]int{i, j, k})) })
		checkCube(t, d, e, c, size, want, "Resize", c.Size, size, c.Low, c.High)
	}
	three, _ := cube.Identity(3)
	for _, size := range []int{2, 3, 5, 9, 17} {
		want, _ := cube.Identity(size)
		d, e := cube.Resize(three, size)
		checkCube(t, d, e, three, size, want.V, "Resize of the identity", size)
	}
	for _, size := range append(badInts(), 0, 1) {
		d, e := cube.Resize(three, size)
		refusedCube(t, d, e, api.ErrRange, "Resize", size)
	}
}

func TestP90Blend(t *testing.T) {
	m := mixer{}
	for range 300 {
		a := m.cube(m.wild)
		b := cubeOf(a.Size, a.Low, a.High, m.wild)
		for _, share := range []float32{0, minusZero(), 1, 0.5, -3, 7, m.share(), m.odd()} {
			var want []float32
			for i, v := range a.V {
				want = append(want, num.Lerp(v, b.V[i], share))
			}
			c, e := cube.Blend(a, b, share)
			checkCube(t, c, e, a, a.Size, want, "Blend", share)
		}
	}
	a, b := known(), known()
	a.Low = minusZero()
	c, e := cube.Blend(a, b, 0.5)
	checkCube(t, c, e, a, 2, a.V, "Blend from -0 to 1, with 0 to 1")
	c, e = cube.Blend(b, a, 0.5)
	checkCube(t, c, e, b, 2, a.V, "Blend from 0 to 1, with -0 to 1")
	for _, other := range unlike() {
		for _, share := range []float32{0, 0.5, oddNaN()} {
			c, e := cube.Blend(b, other, share)
			refusedCube(t, c, e, api.ErrConflict, "Blend", other.Size, other.Low, other.High)
			c, e = cube.Blend(other, b, share)
			refusedCube(t, c, e, api.ErrConflict, "Blend", other.Size, other.Low, other.High)
		}
	}
}

// wantSmoothed is c with each value drawn to its neighbours, once.
func wantSmoothed(c api.Cube) []float32 {
	last := c.Size - 1
	return wantEach(c.Size, func(i, j, k int) [3]float32 {
		var near [][3]float32
		put := func(there bool, i, j, k int) {
			if there {
				near = append(near, at(c, i, j, k))
			}
		}
		put(i > 0, i-1, j, k)
		put(i < last, i+1, j, k)
		put(j > 0, i, j-1, k)
		put(j < last, i, j+1, k)
		put(k > 0, i, j, k-1)
		put(k < last, i, j, k+1)
		v := at(c, i, j, k)
		for channel := range v {
			s := near[0][channel]
			for _, w := range near[1:] {
				s = add(s, w[channel])
			}
			v[channel] = div(add(mul(v[channel], 2), s), float32(2+len(near)))
		}
		return v
	})
}

func TestP92Smoothed(t *testing.T) {
	m := mixer{}
	for i := range 200 {
		value := m.plain
		if i%4 == 0 {
			value = m.wild
		}
		c := m.cube(value)
		want := c
		for times := range 9 {
			got, e := cube.Smoothed(c, times)
			checkCube(t, got, e, c, c.Size, want.V, "Smoothed", times, c.Size)
			want.V = wantSmoothed(want)
		}
	}
	big := cubeOf(17, 0, 1, m.plain)
	got, e := cube.Smoothed(big, 1)
	checkCube(t, got, e, big, 17, wantSmoothed(big), "Smoothed of a large cube")
	zeros := cubeOf(2, 0, 1, minusZero)
	got, e = cube.Smoothed(zeros, 8)
	checkCube(t, got, e, zeros, 2, zeros.V, "Smoothed of -0")
	// Twice a value can be too much, even if the neighbours take it back.
	c := cubeOf(2, 0, 1, func() float32 { return -greatest })
	c.V[0] = greatest
	got, e = cube.Smoothed(c, 1)
	checkCube(t, got, e, c, 2, wantSmoothed(c), "Smoothed of the greatest numbers")
	c = known()
	got, e = cube.Smoothed(c, 1)
	checkError(t, e, api.OK, "Smoothed")
	checkList(t, got.V[:3], []float32{111.0 / 5, -111.0 / 5, 222.0 / 5}, "Smoothed")
	checkList(t, got.V[21:], []float32{15530.0 / 5, -15530.0 / 5, 31060.0 / 5}, "Smoothed")
	for _, times := range append(badInts(), 9, 10) {
		got, e := cube.Smoothed(c, times)
		refusedCube(t, got, e, api.ErrRange, "Smoothed", times)
	}
}

// wantNearest goes through all entries; false, if none is left.
func wantNearest(c api.Cube, p [3]float32) ([3]int, bool) {
	var best [3]int
	least, found := infinity(), false
	for n := c.Size*c.Size*c.Size - 1; n >= 0; n-- { // from behind: equal ones take its place
		i, j, k := n%c.Size, n/c.Size%c.Size, n/c.Size/c.Size
		v := at(c, i, j, k)
		r, g, b := sub(v[0], p[0]), sub(v[1], p[1]), sub(v[2], p[2])
		if d := add(add(mul(r, r), mul(g, g)), mul(b, b)); d <= least {
			best, least, found = [3]int{i, j, k}, d, true
		}
	}
	return best, found
}

func checkNearest(t *testing.T, c api.Cube, p [3]float32, want [3]int, what ...any) {
	t.Helper()
	i, j, k, e := cube.Nearest(c, p)
	if e != api.OK || [3]int{i, j, k} != want {
		t.Errorf("%v: Nearest to %v: %d %d %d, error %d, want %v", what, p, i, j, k, e, want)
	}
}

func noneNearest(t *testing.T, c api.Cube, p [3]float32) {
	t.Helper()
	i, j, k, e := cube.Nearest(c, p)
	refused(t, [3]int{i, j, k}, e, api.ErrNone, "Nearest", p)
}

func TestP93Nearest(t *testing.T) {
	m := mixer{}
	few := func() float32 { return float32(m.below(4)) } // many are equally near
	for i := range 1500 {
		c := m.cube([]func() float32{m.plain, m.wild, few, m.odd}[i%4])
		p := [][3]float32{three(m.plain), three(m.wild), three(few), three(few)}[i%4]
		if want, found := wantNearest(c, p); found {
			checkNearest(t, c, p, want, "random")
		} else {
			noneNearest(t, c, p)
		}
	}
	c, _ := cube.Identity(3)
	checkNearest(t, c, [3]float32{0.4, 1, 0}, [3]int{1, 2, 0}, "identity")
	checkNearest(t, c, [3]float32{0.25, 0.75, 0.25}, [3]int{0, 1, 0}, "of equal ones the first")
	checkNearest(t, c, [3]float32{-9, 9, 0.6}, [3]int{0, 2, 1}, "identity")
	checkNearest(t, c, [3]float32{greatest, greatest, greatest}, [3]int{0, 0, 0}, "all infinitely far")
	checkNearest(t, c, [3]float32{infinity(), 0, -infinity()}, [3]int{0, 0, 0}, "all infinitely far")
	checkNearest(t, cubeOf(2, 0, 1, infinity), [3]float32{1, 2, 3}, [3]int{0, 0, 0}, "all infinite")
	big := cubeOf(17, 0, 1, m.plain)
	checkNearest(t, big, at(big, 3, 16, 9), [3]int{3, 16, 9}, "a large cube")
	checkNearest(t, big, at(big, 16, 16, 16), [3]int{16, 16, 16}, "the last one")
	// An entry whose D is a NaN is left out.
	copy(c.V, []float32{oddNaN(), 0, 0, 0, 0, infinity()})
	checkNearest(t, c, [3]float32{0, 0, 0}, [3]int{0, 1, 0}, "the first one is a NaN")
	far := cubeOf(2, 0, 1, oddNaN)
	noneNearest(t, far, [3]float32{})
	copy(far.V[9:], []float32{greatest, -greatest, infinity()})
	checkNearest(t, far, [3]float32{}, [3]int{1, 1, 0}, "only one is left")
	noneNearest(t, far, [3]float32{0, 0, infinity()})
	for i := range 3 {
		var p [3]float32
		p[i] = oddNaN()
		noneNearest(t, big, p)
	}
	noneNearest(t, cubeOf(2, 0, 1, infinity), [3]float32{0, 0, infinity()})
}

// wantBack looks for p step by step.
func wantBack(c api.Cube, p [3]float32, steps int) ([3]float32, bool) {
	at, found := wantNearest(c, p)
	x := wantValues(c, c.Size, at)
	for range steps {
		q := wantThrough(c, x)
		for i := range x {
			x[i] = num.Limit(add(x[i], mul(sub(p[i], q[i]), 0.5)), c.Low, c.High)
		}
	}
	return x, found
}

func TestP93Back(t *testing.T) {
	m := mixer{}
	for i := range 600 {
		c := m.cube([]func() float32{m.plain, m.share, m.wild}[i%3])
		p := three(m.plain)
		if i%2 == 0 {
			p = three(m.share)
		}
		for _, steps := range []int{0, 1, 2, 7, 64} {
			got, e := cube.Back(c, p, steps)
			want, found := wantBack(c, p, steps)
			if !found {
				refused(t, got, e, api.ErrNone, "Back", p, steps)
				continue
			}
			checkThree(t, got, want, "Back", c.Size, c.Low, c.High, p, steps)
			checkError(t, e, api.OK, "Back", p, steps)
		}
	}
	bent, _ := cube.FromGrade(9, [3]float32{1, 1, 1}, [3]float32{}, [3]float32{0.8, 1.2, 1})
	got, _ := cube.Back(bent, [3]float32{0.3, 0.4, 0.5}, 64)
	q, _ := cube.Tetra(bent, api.Pixel{got[0], got[1], got[2], 0})
	for i, want := range []float32{0.3, 0.4, 0.5} {
		if !(math.Abs(float64(q[i]-want)) < 1e-6) {
			t.Errorf("Back: Tetra there is %v", q)
		}
	}
	// It does not leave the cube.
	id, _ := cube.Identity(3)
	got, e := cube.Back(id, [3]float32{7, -7, 0.5}, 64)
	checkThree(t, got, [3]float32{1, 0, 0.5}, "Back")
	checkError(t, e, api.OK, "Back")
	// The place where it begins is as it is reckoned, also beyond High.
	c := cubeOf(2, 0, 1, func() float32 { return 0 })
	for range 1000 {
		c.Low, c.High = m.between(-1, 0), m.between(0.001, 1)
		if end := add(c.Low, sub(c.High, c.Low)); end > c.High {
			break
		}
	}
	copy(c.V[21:], []float32{1, 1, 1})
	got, _ = cube.Back(c, [3]float32{1, 1, 1}, 0)
	end := add(c.Low, sub(c.High, c.Low))
	if checkThree(t, got, [3]float32{end, end, end}, "Back"); !(end > c.High) {
		t.Error("no ends are found for which it matters")
	}
	got, _ = cube.Back(c, [3]float32{1, 1, 1}, 1)
	checkThree(t, got, [3]float32{c.High, c.High, c.High}, "Back")
}

func TestP93BackErrors(t *testing.T) {
	none := cubeOf(2, 0, 1, oddNaN)
	good, _ := cube.Identity(2)
	for i := range 3 {
		for _, v := range noNumbers() {
			var p [3]float32
			p[i] = v
			for _, steps := range []int{0, 64, -1, 65} {
				got, e := cube.Back(good, p, steps)
				refused(t, got, e, api.ErrForm, "Back", p, steps)
				got, e = cube.Back(none, p, steps)
				refused(t, got, e, api.ErrForm, "Back", p, steps)
			}
		}
	}
	for _, steps := range []int{-1, 65, 100, math.MaxInt, math.MinInt, 1 << 32} {
		for _, c := range []api.Cube{good, none} {
			got, e := cube.Back(c, [3]float32{}, steps)
			refused(t, got, e, api.ErrRange, "Back", steps)
		}
	}
	for _, steps := range []int{0, 1, 64} {
		got, e := cube.Back(none, [3]float32{}, steps)
		refused(t, got, e, api.ErrNone, "Back", steps)
	}
}
