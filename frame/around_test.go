package frame_test

import (
	"math"
	"testing"

	"dyehouse/api"
	"dyehouse/frame"
)

// smaller is r without by pixels on each side.
func smaller(r api.Region, by int) api.Region {
	return region(r.X+by, r.Y+by, r.W-2*by, r.H-2*by)
}

// weighed is the sum of weighed values around a place.
func weighed(f api.Frame, k []float32, by, x, y, c int) float32 {
	sum, n := float32(0), 0
	for b := y - by; b <= y+by; b++ {
		for a := x - by; a <= x+by; a++ {
			product := mul(k[n], at(f, a, b, c))
			if n++; n == 1 {
				sum = product
			} else {
				sum = add(sum, product)
			}
		}
	}
	return sum
}

func TestP26Kernel(t *testing.T) {
	for side := 1; side <= api.MaxKernel; side += 2 {
		by := side / 2
		for i, r := range []api.Region{region(-9, 4, side, side), region(-9, 4, side+3, side+1), region(5, -30, side, side+4)} {
			f, m := noise(r, uint64(side)), mixer{uint64(side)}
			if i == 1 {
				f = wild(r, uint64(side))
			}
			var k []float32
			for range side * side {
				k = append(k, m.plain())
			}
			g, e := frame.Kernel(f, k, side)
			check(t, g, e, frameOf(smaller(r, by), func(x, y, c int) float32 { return weighed(f, k, by, x, y, c) }), "Kernel", side, r)
		}
	}
}

func TestP26KernelEdges(t *testing.T) {
	zero, inf, nan := minusZero(), infinity(), single(0xff800001)
	f := of(0, 0, 1, 1, zero, 1, inf, single(1))
	for _, c := range []struct {
		k    float32
		want [4]float32
	}{
		{1, [4]float32{zero, 1, inf, single(1)}},
		{-1, [4]float32{0, -1, -inf, single(0x80000001)}},
		{zero, [4]float32{0, zero, nan, zero}},
		{0, [4]float32{zero, 0, nan, 0}},
		{0.5, [4]float32{zero, 0.5, inf, 0}},
		{inf, [4]float32{nan, inf, inf, inf}},
		{nan, [4]float32{nan, nan, nan, nan}},
	} {
		g, e := frame.Kernel(f, []float32{c.k}, 1)
		check(t, g, e, of(0, 0, 1, 1, c.want[:]...), "Kernel", c.k)
	}
	one := []float32{1, 1, 1, 1, 1, 1, 1, 1, 1}
	all, _ := frame.Fill(region(3, 3, 3, 3), api.Pixel{zero, 0, 3e38, -inf})
	g, e := frame.Kernel(all, one, 3)
	check(t, g, e, of(4, 4, 1, 1, zero, 0, inf, -inf), "Kernel of zeros")
	// A weight of 0 is not left out.
	hole, _ := frame.Put(all, 3, 3, api.Pixel{inf, nan, 1, 1})
	g, e = frame.Kernel(hole, []float32{0, 0, 0, 0, 1, 0, 0, 0, 0}, 3)
	check(t, g, e, of(4, 4, 1, 1, nan, nan, 3e38, nan), "Kernel of a hole")
}

func TestP26KernelErrors(t *testing.T) {
	f := noise(region(0, 0, 5, 4), 1)
	for _, side := range []int{0, 2, 4, 14, 16, 17, -1, -3, math.MinInt, math.MaxInt, 1<<32 + 1} {
		for _, n := range []int{0, 1, 4, 16, 256, 289} {
			g, e := frame.Kernel(f, make([]float32, n), side)
			refused(t, g, e, api.ErrRange, "Kernel", side)
		}
	}
	for _, side := range []int{1, 3, 5, 15} {
		for _, n := range []int{0, side*side - 1, side*side + 1} {
			g, e := frame.Kernel(f, make([]float32, n, 300), side)
			refused(t, g, e, api.ErrForm, "Kernel", side, n)
		}
	}
	for _, r := range []api.Region{region(0, 0, 5, 4), region(0, 0, 4, 5), region(0, 0, 4, 4), region(0, 0, 1, 50), region(0, 0, 50, 1)} {
		g, e := frame.Kernel(noise(r, 1), make([]float32, 25), 5)
		refused(t, g, e, api.ErrEmpty, "Kernel", r)
		g, e = frame.Blur(noise(r, 1), 2)
		refused(t, g, e, api.ErrEmpty, "Blur", r)
	}
}

// blurred is the sum around a place, divided by how many values it has.
func blurred(f api.Frame, radius, x, y, c int) float32 {
	sum, n := float32(0), 0
	for b := y - radius; b <= y+radius; b++ {
		for a := x - radius; a <= x+radius; a++ {
			v := at(f, a, b, c)
			if n++; n == 1 {
				sum = v
			} else {
				sum = add(sum, v)
			}
		}
	}
	return div(sum, float32(n))
}

func TestP26Blur(t *testing.T) {
	for radius := range api.MaxRadius + 1 {
		side := 2*radius + 1
		for i, r := range []api.Region{region(-9, 4, side, side), region(-9, 4, side+3, side+1), region(5, -30, side, side+4)} {
			f := noise(r, uint64(radius))
			if i == 1 {
				f = wild(r, uint64(radius))
			}
			g, e := frame.Blur(f, radius)
			check(t, g, e, frameOf(smaller(r, radius), func(x, y, c int) float32 { return blurred(f, radius, x, y, c) }), "Blur", radius, r)
		}
	}
	all, _ := frame.Fill(region(3, 3, 3, 3), api.Pixel{minusZero(), single(1), 3e38, single(0xff800001)})
	g, e := frame.Blur(all, 1)
	check(t, g, e, of(4, 4, 1, 1, minusZero(), single(1), infinity(), single(nanBits)), "Blur of one pixel")
	for _, radius := range []int{-1, 17, math.MinInt, math.MaxInt, 1 << 62} {
		g, e := frame.Blur(all, radius)
		refused(t, g, e, api.ErrRange, "Blur", radius)
	}
}

func TestP26OfPartsArePartsOfTheWhole(t *testing.T) {
	f, m := wild(region(-6, -6, 17, 15), 1), mixer{}
	var k []float32
	for range 25 {
		k = append(k, m.plain())
	}
	kernel, _ := frame.Kernel(f, k, 5)
	blur, _ := frame.Blur(f, 2)
	for _, r := range []api.Region{region(-6, -6, 5, 5), region(-3, 0, 6, 8), region(-6, -1, 17, 5), region(0, 0, 11, 9)} {
		cut, _ := frame.Cut(f, r)
		g, e := frame.Kernel(cut, k, 5)
		check(t, g, e, part(kernel, smaller(r, 2)), "Kernel", r)
		g, e = frame.Blur(cut, 2)
		check(t, g, e, part(blur, smaller(r, 2)), "Blur", r)
	}
}

func TestP27Half(t *testing.T) {
	const place = api.MaxPlace
	for y := -4; y < 4; y++ {
		for x := -4; x < 4; x++ {
			for w := 1; w < 6; w++ {
				checkHalf(t, region(x, y, w, 6-w))
			}
		}
	}
	for _, r := range []api.Region{region(place-6, place-5, 6, 5), region(-place, -place, 5, 6), region(0, 0, 256, 64), region(1, 1, 255, 64)} {
		checkHalf(t, r)
	}
	inf := infinity()
	g, e := frame.Half(of(-2, 4, 2, 2, minusZero(), single(1), inf, 1, minusZero(), single(1), 1, 0x1p-24, minusZero(), 0, -inf, 0x1p-24, minusZero(), 0, 1, 0))
	check(t, g, e, of(-1, 2, 1, 1, minusZero(), 0, single(nanBits), 0.25), "Half")
}

// checkHalf looks at all even places near a region for squares in it.
func checkHalf(t *testing.T, r api.Region) {
	t.Helper()
	f := wild(r, uint64(r.X*1000+r.Y))
	var want api.Frame
	for y := r.Y; y < r.Y+r.H; y++ {
		for x := r.X; x < r.X+r.W; x++ {
			if x%2 != 0 || y%2 != 0 || !has(r, x+1, y+1) {
				continue
			}
			if want.V == nil {
				want.X, want.Y = x/2, y/2
			}
			want.W, want.H = x/2-want.X+1, y/2-want.Y+1
			for c := range 4 {
				upper, lower := add(at(f, x, y, c), at(f, x+1, y, c)), add(at(f, x, y+1, c), at(f, x+1, y+1, c))
				want.V = append(want.V, mul(add(upper, lower), 0.25))
			}
		}
	}
	g, e := frame.Half(f)
	if want.V == nil {
		refused(t, g, e, api.ErrEmpty, "Half", r)
		return
	}
	check(t, g, e, want, "Half", r)
}

// resampled is the value of f at (x, y) * up / down, and whether f has the
// pixels that it needs.
func resampled(f api.Frame, x, y, c, up, down int) (float32, bool) {
	split := func(n int) (int, float32) {
		whole := int(math.Floor(float64(n*up) / float64(down))) // exact, or far enough from a whole number
		return whole, div(float32(n*up-whole*down), float32(down))
	}
	i, s := split(x)
	j, u := split(y)
	all := true
	value := func(x, y int) float32 {
		if !has(f.Region, x, y) {
			all = false
			return 0
		}
		return at(f, x, y, c)
	}
	row := func(j int) float32 {
		if s == 0 {
			return value(i, j)
		}
		return lerp(value(i, j), value(i+1, j), s)
	}
	if u == 0 {
		v := row(j)
		return v, all
	}
	v := lerp(row(j), row(j+1), u)
	return v, all
}

func checkResample(t *testing.T, f api.Frame, r api.Region, up, down int) bool {
	t.Helper()
	all := true
	want := frameOf(r, func(x, y, c int) float32 {
		v, is := resampled(f, x, y, c, up, down)
		all = all && is
		return v
	})
	g, e := frame.Resample(f, r, up, down)
	if !all {
		refused(t, g, e, api.ErrPlace, "Resample", f.Region, r, up, down)
		return false
	}
	check(t, g, e, want, "Resample", f.Region, r, up, down)
	return true
}

func TestP27Resample(t *testing.T) {
	m, good, wrong := mixer{}, 0, 0
	for range 30000 {
		up, down := m.below(5)+1, m.below(5)+1
		if m.below(4) == 0 {
			up, down = m.below(64)+1, m.below(64)+1
		}
		f := wild(region(m.below(20)-10, m.below(20)-10, m.below(9)+1, m.below(9)+1), uint64(m.next()))
		r := region(m.below(16)-8, m.below(16)-8, m.below(4)+1, m.below(4)+1)
		if m.below(2) == 0 { // near the frame
			r.X, r.Y = f.X*down/up+m.below(3)-1, f.Y*down/up+m.below(3)-1
		}
		if checkResample(t, f, r, up, down) {
			good++
		} else {
			wrong++
		}
	}
	if good < 1000 || wrong < 1000 {
		t.Error("the regions have no variety:", good, wrong)
	}
}

func TestP27ResampleEdges(t *testing.T) {
	const place = api.MaxPlace
	f := wild(region(-3, -2, 7, 5), 1)
	for _, c := range []struct {
		f        api.Frame
		r        api.Region
		up, down int
		good     bool
	}{
		{f, f.Region, 1, 1, true},   // nothing to the right or below is needed
		{f, f.Region, 64, 64, true}, // likewise
		{f, region(-3, -2, 8, 5), 1, 1, false},
		{f, region(-6, -4, 13, 9), 1, 2, true}, // the last ones are whole
		{f, region(-6, -4, 14, 9), 1, 2, false},
		{f, region(-6, -4, 13, 10), 1, 2, false},
		{f, region(-7, -4, 13, 9), 1, 2, false},
		{f, region(-6, -5, 13, 9), 1, 2, false},
		{f, region(-1, -1, 3, 3), 2, 1, true},
		{f, region(-1, -1, 3, 4), 2, 1, false},
		{f, region(-2, -1, 3, 3), 2, 1, false},
		{f, region(-1, -1, 3, 2), 3, 1, false},
		{f, region(-1, 0, 1, 1), 3, 1, true},
		{of(5, 7, 1, 1, 1, 2, 3, 4), region(10, 14, 1, 1), 1, 2, true},
		{of(5, 7, 1, 1, 1, 2, 3, 4), region(11, 14, 1, 1), 1, 2, false},
		{of(5, 7, 1, 1, 1, 2, 3, 4), region(10, 15, 1, 1), 1, 2, false},
		{wild(region(-place, -place, 2, 2), 1), region(-place, -place, 2, 2), 1, 1, true},
		{wild(region(-place, -place, 2, 2), 1), region(-place/64, -place/64, 1, 1), 64, 1, true},
		{wild(region(-place, -place, 2, 2), 1), region(-place, -place, 1, 1), 64, 1, false},
		{wild(region(0, 0, 2, 2), 1), region(place-4, place-4, 4, 4), 64, 1, false},
	} {
		if checkResample(t, c.f, c.r, c.up, c.down) != c.good {
			t.Errorf("Resample(%v, %v, %d, %d): not %v", c.f.Region, c.r, c.up, c.down, c.good)
		}
	}
	inf, nan, zero := infinity(), single(0xff800001), minusZero()
	// What is not needed does not spoil what is.
	g, e := frame.Resample(of(0, 0, 2, 2, zero, 1, inf, 2, inf, inf, nan, inf, inf, nan, nan, nan, nan, nan, nan, nan), region(0, 0, 1, 1), 1, 3)
	check(t, g, e, of(0, 0, 1, 1, zero, 1, inf, 2), "Resample at a pixel")
}

func TestP27ResampleErrors(t *testing.T) {
	f := noise(region(0, 0, 5, 4), 1)
	for _, n := range []int{0, -1, 65, math.MinInt, math.MaxInt} {
		for _, c := range [][2]int{{n, 1}, {1, n}, {n, n}} {
			g, e := frame.Resample(f, region(0, 0, 1, 1), c[0], c[1])
			refused(t, g, e, api.ErrRange, "Resample", c)
			g, e = frame.Resample(f, region(90, 90, 1, 1), c[0], c[1])
			refused(t, g, e, api.ErrRange, "Resample", c)
		}
	}
	for r, want := range badRegions() {
		for _, n := range []int{0, 1} {
			g, e := frame.Resample(f, r, n, 1)
			refused(t, g, e, want, "Resample", r)
		}
	}
}
