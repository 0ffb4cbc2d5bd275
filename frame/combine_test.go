package frame_test

import (
	"math"
	"testing"

	"dyehouse/api"
	"dyehouse/frame"
)

// combined is what an operation makes of two singles.
func combined(op int, a, b, alpha float32) float32 {
	switch op {
	case api.OpAdd:
		return add(a, b)
	case api.OpSub:
		return sub(a, b)
	case api.OpMul:
		return mul(a, b)
	case api.OpDiv:
		return a / b
	case api.OpLess:
		if b < a {
			return b
		}
		return a
	case api.OpMore:
		if b > a {
			return b
		}
		return a
	case api.OpScreen:
		return sub(1, mul(sub(1, a), sub(1, b)))
	}
	return add(a, mul(b, sub(1, alpha)))
}

func TestP24Combine(t *testing.T) {
	for op := api.OpAdd; op <= api.OpOver; op++ {
		for i := range uint64(6) {
			r := region(-7, 3, 11, 60)
			a, b := noise(r, i), noise(r, i+100)
			if i >= 3 {
				a, b = wild(r, i), wild(r, i+100)
			}
			got, e := frame.Combine(op, a, b)
			check(t, got, e, frameOf(r, func(x, y, c int) float32 {
				return combined(op, at(a, x, y, c), at(b, x, y, c), at(a, x, y, 3))
			}), "Combine", op, i)
		}
	}
}

func TestP24CombineEdges(t *testing.T) {
	inf, nan, zero, small := infinity(), single(0xff800001), minusZero(), single(1)
	for i, c := range []struct {
		op   int
		a, b [4]float32
		want [4]float32
	}{
		{api.OpAdd, [4]float32{zero, zero, inf, small}, [4]float32{zero, 0, -inf, small}, [4]float32{zero, 0, nan, single(2)}},
		{api.OpSub, [4]float32{zero, 1, inf, nan}, [4]float32{0, 1, inf, 1}, [4]float32{zero, 0, nan, nan}},
		{api.OpMul, [4]float32{zero, inf, small, 3e38}, [4]float32{5, 0, 0.5, -2}, [4]float32{zero, nan, 0, -inf}},
		{api.OpDiv, [4]float32{1, -1, 0, small}, [4]float32{0, 0, 0, 2}, [4]float32{inf, -inf, nan, 0}},
		{api.OpDiv, [4]float32{1, 1, inf, single(3)}, [4]float32{zero, -inf, inf, 2}, [4]float32{-inf, zero, nan, single(2)}},
		{api.OpLess, [4]float32{0, zero, nan, 1}, [4]float32{zero, 0, 1, nan}, [4]float32{0, zero, nan, 1}},
		{api.OpLess, [4]float32{2, 1, inf, -inf}, [4]float32{1, 2, 5, 5}, [4]float32{1, 1, 5, -inf}},
		{api.OpMore, [4]float32{0, zero, nan, 1}, [4]float32{zero, 0, 1, nan}, [4]float32{0, zero, nan, 1}},
		{api.OpMore, [4]float32{2, 1, inf, -inf}, [4]float32{1, 2, 5, 5}, [4]float32{2, 2, inf, 5}},
		{api.OpScreen, [4]float32{1, 0, inf, 0x1p-24}, [4]float32{7, 0, 1, 0}, [4]float32{1, 0, nan, 0x1p-24}},
		{api.OpOver, [4]float32{0.5, zero, 0.25, 1}, [4]float32{7, zero, inf, 5}, [4]float32{0.5, zero, nan, 1}},
		{api.OpOver, [4]float32{0.5, 0, 0, 0.5}, [4]float32{2, zero, small, 1}, [4]float32{1.5, 0, 0, 1}},
		{api.OpOver, [4]float32{0.5, 0, 0, nan}, [4]float32{2, 0, 1, 1}, [4]float32{nan, nan, nan, nan}},
	} {
		got, e := frame.Combine(c.op, of(0, 0, 1, 1, c.a[:]...), of(0, 0, 1, 1, c.b[:]...))
		check(t, got, e, of(0, 0, 1, 1, c.want[:]...), "Combine", i)
	}
}

func TestP24CombineErrors(t *testing.T) {
	a := noise(region(0, 0, 2, 3), 1)
	for _, op := range []int{0, -1, 9, math.MinInt, math.MaxInt} {
		g, e := frame.Combine(op, a, a)
		refused(t, g, e, api.ErrKind, "Combine", op)
		g, e = frame.Combine(op, a, noise(region(1, 0, 2, 3), 1))
		refused(t, g, e, api.ErrKind, "Combine", op)
	}
	for op := api.OpAdd; op <= api.OpOver; op++ {
		for _, r := range elsewhere() {
			g, e := frame.Combine(op, a, noise(r, 1))
			refused(t, g, e, api.ErrPlace, "Combine", op, r)
		}
	}
}

// elsewhere are regions that differ from (0, 0, 2, 3).
func elsewhere() []api.Region {
	return []api.Region{region(1, 0, 2, 3), region(0, 1, 2, 3), region(0, 0, 3, 2), region(0, 0, 2, 2), region(0, 0, 1, 3), region(0, 0, 6, 1)}
}

func TestP24Scale(t *testing.T) {
	odd := oddities()
	for i := range uint64(20) {
		r := region(4, -4, 9, 30)
		m, random := api.Pixel{}, mixer{i}
		c := api.Pixel{}
		for k := range 4 {
			m[k], c[k] = random.plain(), random.plain()
			if i >= 10 {
				m[k], c[k] = odd[random.below(len(odd))], odd[random.below(len(odd))]
			}
		}
		f := wild(r, i)
		got, e := frame.Scale(f, m, c)
		check(t, got, e, frameOf(r, func(x, y, k int) float32 { return add(mul(at(f, x, y, k), m[k]), c[k]) }), "Scale", i)
	}
	zero := minusZero()
	got, e := frame.Scale(of(0, 0, 1, 1, zero, 0, 2, single(1)), api.Pixel{1, -1, 3, 0.5}, api.Pixel{zero, zero, 0.5, zero})
	check(t, got, e, of(0, 0, 1, 1, zero, zero, 6.5, 0), "Scale")
}

func TestP25Mix(t *testing.T) {
	r := region(-7, 3, 11, 20)
	for i, s := range append(oddities(), 0.25, 0.3, 0.9999, 2.5, -0.1) {
		a, b := wild(r, uint64(i)), wild(r, uint64(i+100))
		got, e := frame.Mix(a, b, s)
		check(t, got, e, frameOf(r, func(x, y, c int) float32 { return lerp(at(a, x, y, c), at(b, x, y, c), s) }), "Mix", s)
	}
	a := noise(region(0, 0, 2, 3), 1)
	for _, r := range elsewhere() {
		g, e := frame.Mix(a, noise(r, 1), 0.5)
		refused(t, g, e, api.ErrPlace, "Mix", r)
	}
}

func TestP25Through(t *testing.T) {
	r := region(-7, 3, 11, 20)
	for i := range uint64(10) {
		a, b := wild(r, i), wild(r, i+100)
		m, random := api.Matte{Region: r}, mixer{i}
		odd := oddities()
		for range r.W * r.H {
			v := random.plain()
			if random.below(2) == 0 {
				v = odd[random.below(len(odd))]
			}
			m.V = append(m.V, v)
		}
		got, e := frame.Through(a, b, m)
		check(t, got, e, frameOf(r, func(x, y, c int) float32 {
			return lerp(at(a, x, y, c), at(b, x, y, c), m.V[(y-r.Y)*r.W+x-r.X])
		}), "Through", i)
	}
}

func TestP25ThroughErrors(t *testing.T) {
	a := noise(region(0, 0, 2, 3), 1)
	matte := func(r api.Region, n int) api.Matte { return api.Matte{Region: r, V: make([]float32, n, 99)} }
	for _, n := range []int{0, 1, 5, 7, 24} {
		g, e := frame.Through(a, a, matte(a.Region, n))
		refused(t, g, e, api.ErrForm, "Through", n)
		g, e = frame.Through(a, noise(region(0, 1, 2, 3), 1), matte(a.Region, n))
		refused(t, g, e, api.ErrForm, "Through", n)
	}
	for r, want := range badRegions() {
		for _, n := range []int{0, 1, 4} {
			g, e := frame.Through(a, noise(region(0, 1, 2, 3), 1), matte(r, n))
			refused(t, g, e, want, "Through", r)
		}
	}
	for _, r := range elsewhere() {
		g, e := frame.Through(a, a, matte(r, r.W*r.H))
		refused(t, g, e, api.ErrPlace, "Through", "matte", r)
		g, e = frame.Through(a, noise(r, 1), matte(a.Region, 6))
		refused(t, g, e, api.ErrPlace, "Through", "second", r)
		g, e = frame.Through(noise(r, 1), a, matte(a.Region, 6))
		refused(t, g, e, api.ErrPlace, "Through", "first", r)
		g, e = frame.Through(a, noise(r, 1), matte(r, r.W*r.H))
		refused(t, g, e, api.ErrPlace, "Through", "first of three", r)
	}
}
