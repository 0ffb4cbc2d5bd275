package cube_test

import (
	"testing"

	"dyehouse/api"
	"dyehouse/cube"
	"dyehouse/frame"
	"dyehouse/num"
)

// wantOrder are the axes by their shares, the greatest first.
func wantOrder(x, y, z float32) [3]int {
	switch {
	case x >= y && y >= z:
		return [3]int{0, 1, 2}
	case x >= z && z > y:
		return [3]int{0, 2, 1}
	case z > x && x >= y:
		return [3]int{2, 0, 1}
	case y > x && x >= z:
		return [3]int{1, 0, 2}
	case y >= z && z > x:
		return [3]int{1, 2, 0}
	}
	return [3]int{2, 1, 0}
}

// isNaN says whether red, green or blue is one.
func isNaN(p api.Pixel) bool { return p[0] != p[0] || p[1] != p[1] || p[2] != p[2] }

// wantNaN is what is made of pixels with one.
func wantNaN(p api.Pixel) api.Pixel { return api.Pixel{oddNaN(), oddNaN(), oddNaN(), p[3]} }

func wantTetra(c api.Cube, p api.Pixel) api.Pixel {
	if isNaN(p) {
		return wantNaN(p)
	}
	var n [3]int
	var f [3]float32
	for i, v := range p[:3] {
		n[i], f[i] = wantPlace(c, v)
	}
	o := wantOrder(f[0], f[1], f[2])
	s, t, u := f[o[0]], f[o[1]], f[o[2]]
	var l [4][3]float32
	l[0] = at(c, n[0], n[1], n[2])
	for i, axis := range o {
		n[axis]++
		l[i+1] = at(c, n[0], n[1], n[2])
	}
	for i := range 3 {
		a, b, c, d := l[0][i], l[1][i], l[2][i], l[3][i]
		p[i] = add(add(add(a, mul(sub(b, a), s)), mul(sub(c, b), t)), mul(sub(d, c), u))
		switch {
		case s == 0:
			p[i] = a
		case s == 1 && t == 0:
			p[i] = b
		case t == 1 && u == 0:
			p[i] = c
		case u == 1:
			p[i] = d
		}
	}
	return p
}

func wantLinear(c api.Cube, p api.Pixel) api.Pixel {
	if isNaN(p) {
		return wantNaN(p)
	}
	i, x := wantPlace(c, p[0])
	j, y := wantPlace(c, p[1])
	k, z := wantPlace(c, p[2])
	for n := range 3 {
		red := func(j, k int) float32 { return num.Lerp(at(c, i, j, k)[n], at(c, i+1, j, k)[n], x) }
		green := func(k int) float32 { return num.Lerp(red(j, k), red(j+1, k), y) }
		p[n] = num.Lerp(green(k), green(k+1), z)
	}
	return p
}

// way is one to look a pixel up, with what it should make of it.
type way struct {
	call func(api.Cube, api.Pixel) (api.Pixel, api.Errno)
	want func(api.Cube, api.Pixel) api.Pixel
}

func ways() map[int]way {
	return map[int]way{api.CubeTetra: {cube.Tetra, wantTetra}, api.CubeLinear: {cube.Linear, wantLinear}}
}

func testWay(t *testing.T, how int) {
	m := mixer{}
	way := ways()[how]
	for i := range 600 {
		value := m.plain
		if i%3 == 0 {
			value = m.wild
		}
		c := m.cube(value)
		for range 60 {
			p := m.pixel(c)
			q, e := way.call(c, p)
			checkPixel(t, q, way.want(c, p), "way", how, c.Size, c.Low, c.High, p)
			checkError(t, e, api.OK, "way", how)
		}
	}
}

func TestP88Tetra(t *testing.T)  { testWay(t, api.CubeTetra) }
func TestP89Linear(t *testing.T) { testWay(t, api.CubeLinear) }

// known is a cube of which each corner has a number of its own: 1 for red, 10
// for green, 100 for blue, and products of them.
func known() api.Cube {
	c := api.Cube{Size: 2, High: 1}
	for _, v := range []float32{0, 1, 10, 30, 100, 500, 1000, 7000} {
		c.V = append(c.V, v, 0-v, 2*v)
	}
	return c
}

func TestP88KnownTetra(t *testing.T) {
	for p, want := range map[[3]float32]float32{
		{0.5, 0.25, 0.125}: 0.5 + 29*0.25 + 6970*0.125,  // red, green, blue
		{0.5, 0.125, 0.25}: 0.5 + 499*0.25 + 6500*0.125, // red, blue, green
		{0.25, 0.5, 0.125}: 5 + 20*0.25 + 6970*0.125,    // green, red, blue
		{0.125, 0.5, 0.25}: 5 + 990*0.25 + 6000*0.125,   // green, blue, red
		{0.25, 0.125, 0.5}: 50 + 400*0.25 + 6500*0.125,  // blue, red, green
		{0.125, 0.25, 0.5}: 50 + 900*0.25 + 6000*0.125,  // blue, green, red
		{0.5, 0.5, 0.5}:    0.5 + 29*0.5 + 6970*0.5,     // of equal ones red, then green, then blue
		{1, 0.5, 0}:        1 + 29*0.5,                  // on an edge of the cube
		{0, 1, 1}:          1000, {1, 0, 0}: 1, {0, 0, 1}: 100, {1, 1, 0}: 30, {1, 1, 1}: 7000, {0, 0, 0}: 0,
		{9, -9, 0.5}: 1 + 499*0.5,
	} {
		q, e := cube.Tetra(known(), api.Pixel{p[0], p[1], p[2], 5})
		checkPixel(t, q, api.Pixel{want, 0 - want, 2 * want, 5}, "Tetra", p)
		checkError(t, e, api.OK, "Tetra", p)
	}
}

func TestP89KnownLinear(t *testing.T) {
	for p, want := range map[[3]float32]float32{
		{0.5, 0.25, 0.125}: ((0.5*0.75 + 20*0.25) * 0.875) + (300*0.75+4000*0.25)*0.125,
		{0.5, 0.5, 0.5}:    1080.125, // 8641 / 8
		{1, 0.5, 0}:        15.5, {0, 1, 1}: 1000, {1, 0, 0}: 1, {0, 0, 1}: 100, {1, 1, 0}: 30, {1, 1, 1}: 7000, {0, 0, 0}: 0,
		{9, -9, 0.5}: 250.5,
	} {
		q, e := cube.Linear(known(), api.Pixel{p[0], p[1], p[2], 5})
		checkPixel(t, q, api.Pixel{want, 0 - want, 2 * want, 5}, "Linear", p)
		checkError(t, e, api.OK, "Linear", p)
	}
}

// What does not belong to the colour that is asked for must not matter: all
// other entries are NaNs.
func TestP88EntryAlone(t *testing.T) {
	for _, size := range []int{2, 3, 5} {
		for i := range size * size * size {
			c := cubeOf(size, 0, float32(size-1), oddNaN)
			copy(c.V[3*i:], []float32{1, minusZero(), infinity()})
			p := api.Pixel{float32(i % size), float32(i / size % size), float32(i / size / size), minusZero()}
			for how, way := range ways() {
				q, _ := way.call(c, p)
				checkPixel(t, q, api.Pixel{1, minusZero(), infinity(), minusZero()}, "way", how, size, p)
			}
		}
	}
}

func TestP88NaN(t *testing.T) {
	c := cubeOf(3, 0, 1, func() float32 { return 0.5 })
	for _, nan := range []float32{single(nanBits), oddNaN(), single(0x7f800001)} {
		for _, p := range []api.Pixel{{nan, 0, 0, 1}, {0, nan, 0, nan}, {0, 0, nan, minusZero()}, {nan, infinity(), 0, infinity()}, {nan, nan, nan, -1}} {
			for how, way := range ways() {
				q, e := way.call(c, p)
				checkPixel(t, q, api.Pixel{nan, nan, nan, p[3]}, "way", how, p)
				checkError(t, e, api.OK, "way", how, p)
			}
		}
		for how, way := range ways() {
			q, _ := way.call(c, api.Pixel{infinity(), -infinity(), 0.3, nan})
			checkPixel(t, q, api.Pixel{0.5, 0.5, 0.5, nan}, "way", how, "alpha alone")
		}
	}
}

func TestP89Apply(t *testing.T) {
	m := mixer{}
	for i := range 80 {
		c := m.cube(m.wild)
		f := m.frame(c, i-40, 7-i, 1+m.below(6), 1+m.below(6))
		if i == 20 {
			f = m.frame(c, -128, 9, 256, 64)
		}
		for how, way := range ways() {
			var want []float32
			for n := 0; n < len(f.V); n += 4 {
				p := way.want(c, api.Pixel(f.V[n:n+4]))
				want = append(want, p[:]...)
			}
			g, e := cube.Apply(c, how, f)
			checkError(t, e, api.OK, "Apply", how)
			if g.Region != f.Region {
				t.Errorf("Apply: %v, want %v", g.Region, f.Region)
			}
			checkList(t, g.V, want, "Apply", how, c.Size, c.Low, c.High)
		}
	}
}

func TestP89ApplyErrors(t *testing.T) {
	c := known()
	good := api.Frame{Region: api.Region{W: 1, H: 1}, V: make([]float32, 4)}
	bad := []api.Frame{
		{}, {Region: api.Region{W: 257, H: 1}, V: make([]float32, 4*257)}, {Region: api.Region{W: 256, H: 65}}, {Region: api.Region{X: 1 << 20, W: 1, H: 1}, V: make([]float32, 4)},
		{Region: api.Region{W: 1, H: 1}}, {Region: api.Region{W: 1, H: 1}, V: make([]float32, 3)}, {Region: api.Region{W: 1, H: 1}, V: make([]float32, 5)}, {Region: api.Region{W: 1, H: 1}, V: make([]float32, 8)},
	}
	for _, how := range append(badInts(), 0, 3, 4) {
		for _, f := range append(bad, good) { // the way comes ahead of the frame
			g, e := cube.Apply(c, how, f)
			refusedFrame(t, g, e, api.ErrKind, "Apply", how, f.Region)
		}
	}
	for _, f := range bad {
		want := frame.Check(f)
		if want == api.OK {
			t.Fatal("a frame without error")
		}
		for how := range ways() {
			g, e := cube.Apply(c, how, f)
			refusedFrame(t, g, e, want, "Apply", how, f.Region)
		}
	}
}
