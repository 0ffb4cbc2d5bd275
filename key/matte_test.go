package key_test

import (
	"slices"
	"testing"

	"dyehouse/api"
	"dyehouse/frame"
	"dyehouse/key"
)

func TestP105CheckMatte(t *testing.T) {
	m := mixer{}
	for _, r := range append(regions(), api.Region{X: -far, Y: -far, W: 256, H: 64}, api.Region{W: 64, H: 256}, api.Region{X: far - 1, Y: far - 1, W: 1, H: 1}) {
		checkError(t, key.CheckMatte(matteOf(r, m.any)), api.OK, r) // any singles
		for _, n := range badLengths(r.W * r.H) {
			if n != r.W*r.H {
				checkError(t, key.CheckMatte(api.Matte{Region: r, V: make([]float32, n)}), api.ErrForm, r, n)
			}
		}
	}
	for _, c := range badMattes() {
		checkError(t, key.CheckMatte(c.matte), c.error, c.matte.Region, len(c.matte.V))
	}
}

// around are the functions that look around each place.
func around() map[string]func(m api.Matte, radius int) (api.Matte, api.Errno) {
	return map[string]func(m api.Matte, radius int) (api.Matte, api.Errno){"Spread": key.Spread, "Shrink": key.Shrink, "Feather": key.Feather}
}

// Each function with mattes has CheckMatte's error, for each in order, ahead of
// all others.
func TestP105CheckMatteComesFirst(t *testing.T) {
	good := api.Matte{Region: api.Region{W: 3, H: 2}, V: make([]float32, 6)}
	worse := api.Matte{Region: api.Region{W: 3, H: 2}, V: make([]float32, 7)} // ErrForm
	for _, c := range badMattes() {
		got, e := key.Invert(c.matte)
		refusedMatte(t, got, e, c.error, "Invert")
		for _, op := range []int{api.MeetLess, api.MeetMore, api.MeetMul, api.MeetScreen, 0, 5, -1} {
			got, e := key.Meet(op, c.matte, good)
			refusedMatte(t, got, e, c.error, "Meet", op)
			got, e = key.Meet(op, good, c.matte)
			refusedMatte(t, got, e, c.error, "Meet", op)
			got, e = key.Meet(op, c.matte, worse)
			refusedMatte(t, got, e, c.error, "Meet", op)
			got, e = key.Meet(op, worse, c.matte)
			refusedMatte(t, got, e, api.ErrForm, "Meet", op)
		}
		for name, call := range around() {
			for _, radius := range []int{0, 1, 16, -1, 17} {
				got, e := call(c.matte, radius)
				refusedMatte(t, got, e, c.error, name, radius)
			}
		}
	}
}

// What is made of keys and windows are shares, whatever the pixels are.
func TestP105KeysAndWindowsMakeShares(t *testing.T) {
	m := mixer{}
	made := func(name string, v []float32, e api.Errno) {
		checkError(t, e, api.OK, name)
		for _, s := range v {
			if !(s >= 0 && s <= 1) {
				t.Error(name, "makes", s)
			}
		}
	}
	number := func() float32 {
		for {
			if v := m.wild(); v-v == 0 {
				return v
			}
		}
	}
	for range 3000 {
		f := frameOf(api.Region{W: 4, H: 4}, m.wild)
		p, inner, outer := pixelOf(number), number(), number()
		if inner < outer {
			got, e := key.NearMatte(p, inner, outer, f)
			made("NearMatte", got.V, e)
		}
		r := api.Ramp{Low: number(), High: number(), Soft: number()}
		if key.CheckRamp(r) == api.OK {
			got, e := key.LumaMatte(r, [3]float32(p[:3]), f)
			made("LumaMatte", got.V, e)
		}
		k := m.key()
		made("Hue", []float32{key.Hue(k, pixelOf(m.any)), key.Hue(k, pixelAt(f, 0, 0)), key.Ramp(k.Value, m.wild())}, api.OK)
		w := m.window()
		got, e := key.WindowMatte(w, m.region())
		made("WindowMatte", got.V, e)
	}
}

// eachOf is what value says of each pair of elements.
func eachOf(a, b []float32, value func(a, b float32) float32) []float32 {
	l := make([]float32, len(a))
	for i, v := range a {
		l[i] = value(v, b[i])
	}
	return l
}

func TestP108Invert(t *testing.T) {
	m := mixer{}
	for _, r := range regions() {
		for _, value := range []func() float32{m.share, m.odd, m.any} {
			a := matteOf(r, value)
			got, e := key.Invert(a)
			checkMatte(t, got, e, r, eachOf(a.V, a.V, func(v, _ float32) float32 { return sub(1, v) }), "Invert", r)
		}
	}
	a := api.Matte{Region: api.Region{X: 3, Y: -3, W: 4, H: 2}, V: []float32{0, minusZero(), 1, 0.25, infinity(), -infinity(), oddNaN(), -1}}
	got, e := key.Invert(a)
	checkMatte(t, got, e, a.Region, []float32{1, 1, 0, 0.75, -infinity(), infinity(), single(nanBits), 2}, "Invert")
}

// meets are what mattes become where they meet.
func meets() map[int]func(a, b float32) float32 {
	return map[int]func(a, b float32) float32{
		api.MeetLess: func(a, b float32) float32 {
			if b < a {
				return b
			}
			return a
		},
		api.MeetMore: func(a, b float32) float32 {
			if b > a {
				return b
			}
			return a
		},
		api.MeetMul:    mul,
		api.MeetScreen: func(a, b float32) float32 { return sub(1, mul(sub(1, a), sub(1, b))) },
	}
}

func TestP108Meet(t *testing.T) {
	m := mixer{}
	for op, value := range meets() {
		for _, r := range regions() {
			for _, some := range []func() float32{m.share, m.odd, m.any} {
				a, b := matteOf(r, some), matteOf(r, some)
				got, e := key.Meet(op, a, b)
				checkMatte(t, got, e, r, eachOf(a.V, b.V, value), "Meet", op, r)
			}
		}
	}
	r := api.Region{W: 7, H: 1}
	a := api.Matte{Region: r, V: []float32{0.25, 0.5, 0, minusZero(), oddNaN(), 1, infinity()}}
	b := api.Matte{Region: r, V: []float32{0.5, 0.25, minusZero(), 0, 1, oddNaN(), 0}}
	for op, want := range map[int][]float32{
		api.MeetLess:   {0.25, 0.25, 0, minusZero(), oddNaN(), 1, 0},
		api.MeetMore:   {0.5, 0.5, 0, minusZero(), oddNaN(), 1, infinity()},
		api.MeetMul:    {0.125, 0.125, minusZero(), minusZero(), oddNaN(), oddNaN(), oddNaN()},
		api.MeetScreen: {0.625, 0.625, 0, 0, oddNaN(), oddNaN(), infinity()},
	} {
		got, e := key.Meet(op, a, b)
		checkMatte(t, got, e, r, want, "Meet", op)
	}
}

func TestP108MeetErrors(t *testing.T) {
	m := mixer{}
	r := api.Region{X: 1, Y: 2, W: 3, H: 2}
	a := matteOf(r, m.share)
	others := []api.Region{{X: 2, Y: 2, W: 3, H: 2}, {X: 1, Y: 1, W: 3, H: 2}, {X: 1, Y: 2, W: 2, H: 3}, {X: 1, Y: 2, W: 3, H: 1}, {X: 1, Y: 2, W: 6, H: 1}}
	for _, op := range append(badInts(), 0, -1, 5, api.OpScreen, api.OpOver) {
		for _, other := range append(others, r) {
			got, e := key.Meet(op, a, matteOf(other, m.share))
			refusedMatte(t, got, e, api.ErrKind, "Meet", op, other)
		}
	}
	for op := range meets() {
		for _, other := range others {
			got, e := key.Meet(op, a, matteOf(other, m.share))
			refusedMatte(t, got, e, api.ErrPlace, "Meet", op, other)
		}
	}
}

// smaller is r without what lies within the radius from its edges.
func smaller(r api.Region, radius int) api.Region {
	return api.Region{X: r.X + radius, Y: r.Y + radius, W: r.W - 2*radius, H: r.H - 2*radius}
}

// wantAround is what value says of the values around each place.
func wantAround(m api.Matte, radius int, value func(l []float32) float32) []float32 {
	var l []float32
	r := smaller(m.Region, radius)
	for n := range r.W * r.H {
		var square []float32
		for i := range m.V {
			if abs(float32(i%m.W-radius-n%r.W)) <= float32(radius) && abs(float32(i/m.W-radius-n/r.W)) <= float32(radius) {
				square = append(square, m.V[i])
			}
		}
		l = append(l, value(square))
	}
	return l
}

// wants are what becomes of a square of values, in order.
func wants() map[string]func(l []float32) float32 {
	return map[string]func(l []float32) float32{
		"Spread": func(l []float32) float32 {
			for len(l) > 1 {
				if l[1] > l[0] {
					l = l[1:]
				} else {
					l = append([]float32{l[0]}, l[2:]...)
				}
			}
			return l[0]
		},
		"Shrink": func(l []float32) float32 {
			for len(l) > 1 {
				if l[1] < l[0] {
					l = l[1:]
				} else {
					l = append([]float32{l[0]}, l[2:]...)
				}
			}
			return l[0]
		},
		"Feather": func(l []float32) float32 {
			sum, alike := l[0], true
			for _, v := range l[1:] {
				sum = add(sum, v)
				alike = alike && clean(v) == clean(l[0])
			}
			if alike {
				return l[0]
			}
			return div(sum, float32(len(l)))
		},
	}
}

func TestP109P110Around(t *testing.T) {
	m := mixer{}
	few := func() float32 { return []float32{0, minusZero(), 1, oddNaN(), 0.5}[m.below(5)] }
	for name, call := range around() {
		for i := range 400 {
			r := api.Region{X: m.from(-9, 9), Y: m.from(-9, 9), W: m.from(1, 9), H: m.from(1, 9)}
			radius := m.below((min(r.W, r.H) + 1) / 2)
			a := matteOf(r, []func() float32{m.share, m.odd, m.any, few}[i%4])
			got, e := call(a, radius)
			checkMatte(t, got, e, smaller(r, radius), wantAround(a, radius, wants()[name]), name, r, radius)
		}
		for _, r := range []api.Region{{X: -far, Y: far - 33, W: 33, H: 33}, {X: 5, Y: 6, W: 34, H: 36}} {
			a := matteOf(r, m.share)
			got, e := call(a, 16)
			checkMatte(t, got, e, smaller(r, 16), wantAround(a, 16, wants()[name]), name, r)
		}
	}
}

// The first value stays unless another one is greater (less): also a NaN, and a
// zero of either sign. Squares are read row by row.
func TestP109FirstOfEqual(t *testing.T) {
	nan, zero := oddNaN(), minusZero()
	for _, c := range []struct {
		l              []float32
		spread, shrink float32
	}{
		{[]float32{nan, 1, 2, 3, 4, 5, 6, 7, 8}, nan, nan},
		{[]float32{1, nan, 2, nan, 4, nan, 6, nan, 0}, 6, 0},
		{[]float32{nan, nan, nan, nan, nan, nan, nan, nan, nan}, nan, nan},
		{[]float32{0, zero, zero, zero, zero, zero, zero, zero, zero}, 0, 0},
		{[]float32{zero, 0, 0, 0, 0, 0, 0, 0, 0}, zero, zero},
		{[]float32{-1, 1, zero, 0, 1, -1, 0, zero, 0}, 1, -1},
		{[]float32{-1, nan, -2, zero, -3, 0, -4, nan, -5}, zero, -5},
		{[]float32{2, nan, 3, 0, zero, 3, nan, 4, zero}, 4, 0},
		{[]float32{infinity(), -infinity(), nan, 0, 0, 0, 0, 0, 0}, infinity(), -infinity()},
	} {
		m := api.Matte{Region: api.Region{W: 3, H: 3}, V: c.l}
		inner := api.Region{X: 1, Y: 1, W: 1, H: 1}
		got, e := key.Spread(m, 1)
		checkMatte(t, got, e, inner, []float32{c.spread}, "Spread", c.l)
		got, e = key.Shrink(m, 1)
		checkMatte(t, got, e, inner, []float32{c.shrink}, "Shrink", c.l)
	}
}

func TestP110FeatherOfEqual(t *testing.T) {
	for _, v := range append(oddities(), 0.1, 0.3, 1.0/3, greatest) {
		for radius := range 17 {
			side := 2*radius + 1
			a := matteOf(api.Region{W: side, H: side}, func() float32 { return v })
			got, e := key.Feather(a, radius)
			checkMatte(t, got, e, api.Region{X: radius, Y: radius, W: 1, H: 1}, []float32{v}, "Feather", v, radius)
		}
	}
	a := api.Matte{Region: api.Region{W: 3, H: 3}, V: []float32{0, minusZero(), minusZero(), minusZero(), minusZero(), minusZero(), minusZero(), minusZero(), minusZero()}}
	got, e := key.Feather(a, 1)
	checkMatte(t, got, e, api.Region{X: 1, Y: 1, W: 1, H: 1}, []float32{0}, "Feather of zeros")
	// In another order of the sum, 0x1p24 and 1 would not cancel like this.
	a.V = []float32{0x1p24, 1, 1, 1, -0x1p24, 1, 1, 1, 1}
	got, e = key.Feather(a, 1)
	checkMatte(t, got, e, api.Region{X: 1, Y: 1, W: 1, H: 1}, []float32{div(4, 9)}, "Feather in order")
}

func TestP109P110Errors(t *testing.T) {
	m := mixer{}
	for name, call := range around() {
		for _, r := range []api.Region{{W: 1, H: 1}, {X: 5, Y: 5, W: 40, H: 40}} {
			for _, radius := range append(badInts(), -1, -2, 17) {
				got, e := call(matteOf(r, m.share), radius)
				refusedMatte(t, got, e, api.ErrRange, name, r, radius)
			}
		}
		for _, c := range []struct{ w, h, radius int }{{1, 1, 1}, {2, 9, 1}, {9, 2, 1}, {1, 1, 16}, {32, 256, 16}, {256, 32, 16}, {4, 4, 2}} {
			got, e := call(matteOf(api.Region{X: -far, Y: -far, W: c.w, H: c.h}, m.share), c.radius)
			refusedMatte(t, got, e, api.ErrEmpty, name, c)
		}
	}
}

// fine returns a share that is a multiple of 2^-20.
func (m *mixer) fine() float32 { return float32(m.below(1<<20+1)) * 0x1p-20 }

func TestP109Laws(t *testing.T) {
	m := mixer{}
	for range 300 {
		r := api.Region{X: m.from(-9, 9), Y: m.from(-9, 9), W: m.from(5, 24), H: m.from(5, 24)}
		radius := m.below((min(r.W, r.H)-1)/4 + 1)
		a := matteOf(r, m.fine)
		shrunk, e := key.Shrink(a, radius)
		checkError(t, e, api.OK, "Shrink")
		inverse, _ := key.Invert(a)
		inverse, _ = key.Spread(inverse, radius)
		inverse, _ = key.Invert(inverse)
		if !slices.Equal(inverse.V, shrunk.V) { // by value
			t.Error("Shrink is not 1 less Spread of 1 less", r, radius)
		}
		checkOpening(t, a, radius)
		checkOpening(t, matteOf(r, m.plain), radius)
	}
}

// checkOpening tells if Spread of Shrink is anywhere greater, or if both once
// more change anything.
func checkOpening(t *testing.T, a api.Matte, radius int) {
	t.Helper()
	open := func(m api.Matte) api.Matte {
		m, _ = key.Shrink(m, radius)
		m, _ = key.Spread(m, radius)
		return m
	}
	once := open(a)
	for y := range once.H {
		for x := range once.W {
			if once.V[y*once.W+x] > a.V[(y+2*radius)*a.W+x+2*radius] {
				t.Error("Spread of Shrink is greater", a.Region, radius)
			}
		}
	}
	if 8*radius >= min(a.W, a.H) {
		return // nothing would be left
	}
	twice := open(once)
	if !slices.Equal(twice.V, part(once, twice.Region)) {
		t.Error("Spread of Shrink changes what it has made", a.Region, radius)
	}
}

// part are the values of m in the region r.
func part(m api.Matte, r api.Region) []float32 {
	f, _ := frame.FromPlanes(m.Region, [4][]float32{m.V, m.V, m.V, m.V})
	f, _ = frame.Cut(f, r)
	v, _ := frame.Plane(f, 0)
	return v
}
