package cube_test

import (
	"testing"

	"dyehouse/api"
	"dyehouse/cube"
)

func checkGrey(t *testing.T, c api.Cube, want bool, what ...any) {
	t.Helper()
	if is, e := cube.Grey(c); is != want || e != api.OK {
		t.Errorf("%v: Grey: %v, error %d", what, is, e)
	}
}

func TestP91Grey(t *testing.T) {
	m := mixer{}
	for size := 2; size <= 17; size++ {
		c, _ := cube.Identity(size)
		checkGrey(t, c, true, "identity", size)
		for range 8 {
			c := cubeOf(size, 0, 1, m.wild) // what is not on the axis does not count
			for n := range size {
				v := []float32{m.plain(), minusZero(), 0, single(1), greatest}[m.below(5)]
				from := 3 * n * (1 + size + size*size)
				copy(c.V[from:], []float32{v, v, v})
			}
			checkGrey(t, c, true, size)
			from := 3*m.below(size)*(1+size+size*size) + m.below(3)
			was := c.V[from]
			c.V[from] = above(was)
			checkGrey(t, c, false, size, was, "and the next one")
		}
	}
	zeros := cubeOf(3, 0, 1, func() float32 { return 0 })
	checkGrey(t, zeros, true, "zeros")
	for i := range 3 {
		for n := range 3 {
			c := zeros
			c.V = append([]float32{}, zeros.V...)
			c.V[39*n+i] = minusZero()
			checkGrey(t, c, false, "-0", n, i)
		}
	}
	for _, v := range noNumbers() {
		checkGrey(t, cubeOf(2, 0, 1, func() float32 { return v }), false, v)
		c := cubeOf(2, 0, 1, func() float32 { return 1 })
		copy(c.V[21:], []float32{v, v, v})
		checkGrey(t, c, false, "at the end", v)
	}
}

// wantApart is how far two singles are apart.
func wantApart(a, b float32) float32 {
	if clean(a) == clean(b) {
		return 0
	}
	d := sub(a, b)
	switch {
	case d != d:
		return infinity()
	case d < 0:
		return -d
	case d == 0:
		return 0
	}
	return d
}

// wantMost is the greatest one, or 0.
func wantMost(l ...float32) float32 {
	var most float32
	for _, v := range l {
		if v > most {
			most = v
		}
	}
	return most
}

func wantRough(c api.Cube) float32 {
	var l []float32
	for k := range c.Size {
		for j := range c.Size {
			for i := range c.Size {
				for axis := range 3 {
					next := [3]int{i, j, k}
					next[axis]--
					if next[axis] < 0 {
						continue
					}
					a, b := at(c, i, j, k), at(c, next[0], next[1], next[2])
					l = append(l, wantApart(a[0], b[0]), wantApart(a[1], b[1]), wantApart(a[2], b[2]))
				}
			}
		}
	}
	return wantMost(l...)
}

func TestP91Rough(t *testing.T) {
	m := mixer{}
	rough := func(c api.Cube, want float32, what ...any) {
		t.Helper()
		d, e := cube.Rough(c)
		check(t, d, want, append(what, "Rough")...)
		checkError(t, e, api.OK, what...)
	}
	for i := range 400 {
		c := m.cube(m.plain)
		if i%2 == 0 { // one thing that is special, so that it decides
			c.V[m.below(len(c.V))] = m.odd()
		}
		rough(c, wantRough(c), c.Size)
	}
	rough(known(), 13940, "known")
	rough(cubeOf(17, 0, 1, minusZero), 0, "equal")
	for _, v := range noNumbers() {
		rough(cubeOf(2, 0, 1, func() float32 { return v }), 0, "all are", v)
		for _, place := range []int{0, 11, 23} {
			c := cubeOf(2, 0, 1, func() float32 { return 1 })
			c.V[place] = v
			rough(c, infinity(), "one is", v)
		}
	}
	c := cubeOf(2, 0, 1, func() float32 { return single(0x7fc00001) })
	c.V[0] = single(0xffc00000)
	rough(c, 0, "NaNs of several bits")
	c = cubeOf(2, 0, 1, minusZero)
	c.V[0] = 0
	rough(c, 0, "zeros of both signs")
	c = cubeOf(2, 0, 1, func() float32 { return greatest })
	c.V[9] = -greatest
	rough(c, infinity(), "numbers too far apart")
	// Each pair of neighbours counts, and no other one.
	for n := range 27 {
		for channel := range 3 {
			c := cubeOf(3, 0, 1, func() float32 { return 1 })
			c.V[3*n+channel] = -2
			rough(c, 3, "one entry", n)
		}
	}
	ramp := api.Cube{Size: 5, High: 1, V: wantEach(5, func(i, j, k int) [3]float32 { return [3]float32{float32(i), float32(2 * j), float32(i + j + k)} })}
	rough(ramp, 2, "a ramp")
}

func TestP91Apart(t *testing.T) {
	m := mixer{}
	apart := func(a, b api.Cube, want float32, what ...any) {
		t.Helper()
		for _, pair := range [][2]api.Cube{{a, b}, {b, a}} {
			d, e := cube.Apart(pair[0], pair[1])
			check(t, d, want, append(what, "Apart")...)
			checkError(t, e, api.OK, what...)
		}
	}
	for i := range 400 {
		a := m.cube(m.plain)
		b := cubeOf(a.Size, a.Low, a.High, m.plain)
		if i%2 == 0 {
			a.V[m.below(len(a.V))] = m.odd()
		}
		var l []float32
		for n, v := range a.V {
			l = append(l, wantApart(v, b.V[n]))
		}
		apart(a, b, wantMost(l...), a.Size)
		apart(a, a, 0, "itself")
	}
	odd := m.cube(m.odd)
	apart(odd, odd, 0, "oddities and themselves")
	one, zero := cubeOf(2, 0, 1, oddNaN), cubeOf(2, minusZero(), 1, func() float32 { return single(nanBits) })
	apart(one, zero, 0, "NaNs of several bits, from 0 and from -0")
	for n := range 24 {
		other := known()
		other.V[n] += 0.5
		apart(known(), other, 0.5, "element", n)
		for _, v := range noNumbers() {
			other.V[n] = v
			apart(known(), other, infinity(), "element", n, v)
		}
	}
	for _, other := range unlike() {
		d, e := cube.Apart(known(), other)
		refused(t, d, e, api.ErrConflict, "Apart", other.Size, other.Low, other.High)
		d, e = cube.Apart(other, known())
		refused(t, d, e, api.ErrConflict, "Apart", other.Size, other.Low, other.High)
	}
}

func TestP91Bounds(t *testing.T) {
	m := mixer{}
	bounds := func(c api.Cube, low, high [3]float32, what ...any) {
		t.Helper()
		a, b, e := cube.Bounds(c)
		checkThree(t, a, low, append(what, "low")...)
		checkThree(t, b, high, append(what, "high")...)
		checkError(t, e, api.OK, what...)
	}
	for i := range 500 {
		c := m.cube([]func() float32{m.plain, m.wild, m.odd}[i%3])
		low, high := at(c, 0, 0, 0), at(c, 0, 0, 0)
		for n, v := range c.V {
			if v < low[n%3] {
				low[n%3] = v
			}
			if v > high[n%3] {
				high[n%3] = v
			}
		}
		bounds(c, low, high, c.Size)
	}
	bounds(known(), [3]float32{0, -7000, 0}, [3]float32{7000, 0, 14000}, "known")
	c := known()
	c.V[0], c.V[4], c.V[23] = oddNaN(), oddNaN(), oddNaN()
	bounds(c, [3]float32{oddNaN(), -7000, 0}, [3]float32{oddNaN(), 0, 2000}, "NaNs")
	c = cubeOf(2, 0, 1, minusZero)
	c.V[3], c.V[1] = 0, 0
	bounds(c, [3]float32{minusZero(), 0, minusZero()}, [3]float32{minusZero(), 0, minusZero()}, "zeros of both signs")
	c.V[21], c.V[22], c.V[20] = infinity(), -infinity(), -single(1)
	bounds(c, [3]float32{minusZero(), -infinity(), -single(1)}, [3]float32{infinity(), 0, minusZero()}, "infinities")
}
