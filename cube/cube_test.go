package cube_test

import (
	"math"
	"testing"

	"dyehouse/api"
	"dyehouse/cube"
	"dyehouse/num"
)

func TestP85Check(t *testing.T) {
	m := mixer{}
	for size := 2; size <= 17; size++ {
		for _, ends := range [][2]float32{{0, 1}, {minusZero(), single(1)}, {-single(1), 0}, {1, above(1)}, {-maxEnd, maxEnd}, {below(maxEnd), maxEnd}, {-maxEnd, above(-maxEnd)}, {m.between(-9, 0), m.between(1, 9)}} {
			c := cubeOf(size, ends[0], ends[1], m.wild) // any singles
			checkError(t, cube.Check(c), api.OK, size, ends)
		}
	}
	for _, c := range badCubes() {
		checkError(t, cube.Check(c.cube), c.error, c.cube.Size, c.cube.Low, c.cube.High, len(c.cube.V))
	}
}

// Each function with a cube has Check's error, ahead of all others.
func TestP85CheckComesFirst(t *testing.T) {
	type place struct{ i, j, k int }
	type ends struct{ low, high [3]float32 }
	for _, c := range badCubes() {
		v, e := cube.Entry(c.cube, -1, 0, 0)
		refused(t, v, e, c.error, "Entry")
		p, e := cube.Tetra(c.cube, api.Pixel{1, 1, 1, 1})
		refused(t, p, e, c.error, "Tetra")
		p, e = cube.Linear(c.cube, api.Pixel{1, 1, 1, 1})
		refused(t, p, e, c.error, "Linear")
		for _, how := range []int{0, api.CubeTetra, api.CubeLinear} {
			f, e := cube.Apply(c.cube, how, api.Frame{})
			refusedFrame(t, f, e, c.error, "Apply")
			f, e = cube.Apply(c.cube, how, api.Frame{Region: api.Region{W: 1, H: 1}, V: make([]float32, 4)})
			refusedFrame(t, f, e, c.error, "Apply")
		}
		for _, n := range []int{2, 0, 99} {
			d, e := cube.Resize(c.cube, n)
			refusedCube(t, d, e, c.error, "Resize")
			d, e = cube.Smoothed(c.cube, n)
			refusedCube(t, d, e, c.error, "Smoothed")
			for _, red := range []float32{0, oddNaN()} {
				b, e := cube.Back(c.cube, [3]float32{red, 0, 0}, n)
				refused(t, b, e, c.error, "Back")
				i, j, k, e := cube.Nearest(c.cube, [3]float32{red, 0, 0})
				refused(t, place{i, j, k}, e, c.error, "Nearest")
			}
		}
		is, e := cube.Grey(c.cube)
		refused(t, is, e, c.error, "Grey")
		d, e := cube.Rough(c.cube)
		refused(t, d, e, c.error, "Rough")
		low, high, e := cube.Bounds(c.cube)
		refused(t, ends{low, high}, e, c.error, "Bounds")
		text, e := cube.Print(c.cube)
		refused(t, text, e, c.error, "Print")
	}
	for _, c := range badPairs() {
		d, e := cube.Compose(c.a, c.b)
		refusedCube(t, d, e, c.error, "Compose")
		d, e = cube.Blend(c.a, c.b, 0.5)
		refusedCube(t, d, e, c.error, "Blend")
		v, e := cube.Apart(c.a, c.b)
		refused(t, v, e, c.error, "Apart")
	}
}

func TestP85Entry(t *testing.T) {
	m := mixer{}
	for _, size := range []int{2, 3, 5, 17} {
		c := cubeOf(size, -1, 1, m.wild)
		n := 0
		for k := range size {
			for j := range size {
				for i := range size {
					v, e := cube.Entry(c, i, j, k)
					checkThree(t, v, [3]float32(c.V[3*n:3*n+3]), "Entry", size, i, j, k)
					checkError(t, e, api.OK, "Entry", size, i, j, k)
					n++
				}
			}
		}
		for _, bad := range append(badInts(), size, size+1) {
			for _, p := range [][3]int{{bad, 0, 0}, {0, bad, 0}, {0, 0, bad}, {bad, bad, bad}, {size - 1, size - 1, bad}} {
				v, e := cube.Entry(c, p[0], p[1], p[2])
				refused(t, v, e, api.ErrPlace, "Entry", size, p)
			}
		}
	}
}

func TestP86Identity(t *testing.T) {
	for size := 2; size <= 17; size++ {
		c, e := cube.Identity(size)
		want := wantEach(size, func(i, j, k int) [3]float32 {
			last := float32(size - 1)
			return [3]float32{div(float32(i), last), div(float32(j), last), div(float32(k), last)}
		})
		checkCube(t, c, e, api.Cube{High: 1}, size, want, "Identity", size)
		checkError(t, cube.Check(c), api.OK, "Identity", size)
	}
	c, e := cube.Identity(2)
	checkCube(t, c, e, api.Cube{High: 1}, 2, []float32{0, 0, 0, 1, 0, 0, 0, 1, 0, 1, 1, 0, 0, 0, 1, 1, 0, 1, 0, 1, 1, 1, 1, 1}, "Identity")
	for _, size := range append(badInts(), 0, 1) {
		c, e := cube.Identity(size)
		refusedCube(t, c, e, api.ErrRange, "Identity", size)
	}
}

// wantPlace is where v lies on an axis of c.
func wantPlace(c api.Cube, v float32) (int, float32) {
	last := float32(c.Size - 1)
	u := mul(div(sub(v, c.Low), sub(c.High, c.Low)), last)
	if u >= last {
		return c.Size - 2, 1
	}
	for i := c.Size - 2; i >= 0; i-- {
		if u > 0 && u >= float32(i) {
			return i, sub(u, float32(i))
		}
	}
	return 0, 0
}

func TestP87Place(t *testing.T) {
	m := mixer{}
	zero := func() float32 { return 0 }
	for range 300 {
		c := m.cube(zero)
		for range 100 {
			v := m.value(c)
			i, x := cube.Place(c, v)
			wantI, wantX := wantPlace(c, v)
			if check(t, x, wantX, "Place", c.Size, c.Low, c.High, v); i != wantI {
				t.Errorf("Place(%d from %v to %v, %v): %d, want %d", c.Size, c.Low, c.High, v, i, wantI)
			}
		}
	}
	for _, c := range []struct {
		size    int
		low     float32
		high, v float32
		i       int
		x       float32
	}{
		{2, 0, 1, 0, 0, 0}, {2, 0, 1, 1, 0, 1}, {2, 0, 1, 0.5, 0, 0.5}, {2, 0, 1, minusZero(), 0, 0}, {2, 0, 1, single(1), 0, single(1)}, {2, 0, 1, below(1), 0, below(1)},
		{3, 0, 1, 0.5, 1, 0}, {3, 0, 1, below(0.5), 0, below(1)}, {3, 0, 1, 0.75, 1, 0.5}, {3, 0, 1, 1, 1, 1}, {3, 0, 1, above(1), 1, 1}, {3, 0, 1, -1, 0, 0}, {3, 0, 1, greatest, 1, 1}, {3, 0, 1, -greatest, 0, 0},
		{5, -1, 1, 0, 2, 0}, {5, -1, 1, -1, 0, 0}, {5, -1, 1, 0.75, 3, 0.5}, {5, -1, 1, -0.75, 0, 0.5}, {17, 0, 2, 1, 8, 0}, {17, 0, 2, 2, 15, 1},
		{5, 0, 1, infinity(), 3, 1}, {5, 0, 1, -infinity(), 0, 0}, {5, 0, 1, oddNaN(), 0, 0}, {5, 0, 1, single(nanBits), 0, 0},
		{5, 0, single(1), single(1), 3, 1}, {5, 0, single(1), 1, 3, 1}, {5, 0, single(4), single(2), 2, 0}, {5, 0, single(4), single(1), 1, 0}, {5, 0, single(1), minusZero(), 0, 0},
	} {
		i, x := cube.Place(cubeOf(c.size, c.low, c.high, zero), c.v)
		if check(t, x, c.x, "Place", c); i != c.i {
			t.Errorf("Place of %v: %d", c, i)
		}
	}
	for _, c := range badCubes() {
		for _, v := range []float32{0, 0.5, 1, 2, -1, infinity(), oddNaN()} {
			i, x := cube.Place(c.cube, v)
			if check(t, x, 0, "Place of a cube of no form", v); i != 0 {
				t.Errorf("Place of a cube of no form, %v: %d", v, i)
			}
		}
	}
}

func TestP94FromGrade(t *testing.T) {
	m := mixer{}
	power := func() float32 {
		l := []float32{1, 0.5, 2, single(1), greatest, m.between(0.01, 5)}
		return l[m.below(len(l))]
	}
	number := func() float32 {
		l := []float32{0, minusZero(), 1, -1, greatest, -greatest, single(1), m.plain(), m.plain(), m.share()}
		return l[m.below(len(l))]
	}
	for i := range 400 {
		size := 2 + i%5
		slope, offset, power := three(number), three(number), three(power)
		c, e := cube.FromGrade(size, slope, offset, power)
		want := wantEach(size, func(i, j, k int) [3]float32 {
			var v [3]float32
			for n, at := range []int{i, j, k} {
				u := add(mul(div(float32(at), float32(size-1)), slope[n]), offset[n])
				if !(u > 0) {
					u = 0
				}
				v[n] = num.Power(u, power[n])
			}
			return v
		})
		checkCube(t, c, e, api.Cube{High: 1}, size, want, "FromGrade", size, slope, offset, power)
	}
	c, e := cube.FromGrade(3, [3]float32{2, -1, 4}, [3]float32{-1, 0.5, 0}, [3]float32{1, 1, 0.5})
	want := wantEach(3, func(i, j, k int) [3]float32 {
		return [3]float32{[]float32{0, 0, 1}[i], []float32{0.5, 0, 0}[j], []float32{0, num.Power(2, 0.5), 2}[k]}
	})
	checkCube(t, c, e, api.Cube{High: 1}, 3, want, "FromGrade")
	one := [3]float32{1, 1, 1}
	c, e = cube.FromGrade(5, one, [3]float32{}, one)
	same, _ := cube.Identity(5)
	checkCube(t, c, e, same, 5, same.V, "FromGrade of nothing")
}

func TestP94FromGradeErrors(t *testing.T) {
	one := [3]float32{1, 1, 1}
	refusal := func(size int, slope, offset, power [3]float32, want api.Errno) {
		t.Helper()
		c, e := cube.FromGrade(size, slope, offset, power)
		refusedCube(t, c, e, want, "FromGrade", size, slope, offset, power)
	}
	for i := range 3 {
		for _, v := range noNumbers() {
			bad, low := one, one
			bad[i], low[(i+1)%3] = v, -1
			for _, size := range append(badInts(), 0, 1) {
				refusal(size, bad, one, low, api.ErrRange)
			}
			refusal(2, bad, one, one, api.ErrForm)
			refusal(2, one, bad, one, api.ErrForm)
			refusal(17, one, one, bad, api.ErrForm)
			refusal(2, bad, one, low, api.ErrForm)
			refusal(2, one, bad, low, api.ErrForm)
			mixed := low
			mixed[i] = v
			refusal(2, one, one, mixed, api.ErrForm)
		}
		for _, v := range []float32{0, minusZero(), -single(1), -1, -greatest} {
			bad := one
			bad[i] = v
			refusal(2, one, one, bad, api.ErrRange)
			refusal(17, bad, bad, bad, api.ErrRange)
		}
	}
	for _, size := range append(badInts(), 0, 1) {
		refusal(size, one, one, one, api.ErrRange)
	}
	_, e := cube.FromGrade(2, [3]float32{-greatest, 0, minusZero()}, [3]float32{greatest, -greatest, 0}, [3]float32{single(1), greatest, 1})
	checkError(t, e, api.OK, "numbers at their bounds")
	_, e = cube.FromGrade(2, one, one, [3]float32{math.SmallestNonzeroFloat32, 1, 1})
	checkError(t, e, api.OK, "the least power")
}
