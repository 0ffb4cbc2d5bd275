package finish_test

import (
	"math"
	"testing"

	"dyehouse/api"
	"dyehouse/finish"
)

// badGrain is grain with the error that it has.
type badGrain struct {
	grain api.Grain
	error api.Errno
}

// badGrains are grains of each error of CheckGrain.
func badGrains() []badGrain {
	var l []badGrain
	for _, n := range append(badInts(), 0, -1, 17) {
		for _, v := range []float32{1, oddNaN(), infinity(), -1} {
			l = append(l, badGrain{api.Grain{Size: n, Strength: v}, api.ErrRange}, badGrain{api.Grain{Size: n, Fall: v}, api.ErrRange})
		}
	}
	for _, v := range noNumbers() {
		for _, w := range []float32{0, -1, 5} {
			l = append(l, badGrain{api.Grain{Size: 1, Strength: v, Fall: w}, api.ErrForm}, badGrain{api.Grain{Size: 1, Strength: w, Fall: v}, api.ErrForm})
		}
	}
	for _, v := range []float32{-least, -1, above(4), 5, greatest, -greatest} {
		l = append(l, badGrain{api.Grain{Size: 16, Strength: v}, api.ErrRange}, badGrain{api.Grain{Size: 1, Fall: v, Mono: true}, api.ErrRange})
	}
	return l
}

func TestP135CheckGrain(t *testing.T) {
	for _, g := range []api.Grain{
		{Size: 1}, {Size: 16}, {Seed: math.MaxUint32, Size: 8, Strength: 4, Fall: 4, Mono: true},
		{Size: 2, Strength: minusZero(), Fall: minusZero()}, {Size: 3, Strength: least, Fall: least}, {Size: 15, Strength: 0.5, Fall: 0.25},
	} {
		checkError(t, finish.CheckGrain(g), api.OK, g)
	}
	for _, c := range badGrains() {
		checkError(t, finish.CheckGrain(c.grain), c.error, c.grain)
	}
}

// The numbers were reckoned by another program.
func TestP135GrainedOfSome(t *testing.T) {
	large := 1 << 40
	for _, c := range []struct {
		grain        api.Grain
		number, x, y int
		pixel        api.Pixel
		want         [3]uint32
	}{
		{api.Grain{Seed: 1, Size: 1, Strength: 1}, 0, 0, 0, api.Pixel{3: 1}, [3]uint32{0x3ef08a94, 0xbef50ef8, 0x3e3b74b0}},
		{api.Grain{Seed: 7, Size: 3, Strength: 0.5, Fall: 0.25}, 2, 10, -7, api.Pixel{0.18, 0.5, 0.9, 1}, [3]uint32{0xbd1acf64, 0x3f1f7ee3, 0x3f5db5f9}},
		{api.Grain{Seed: 7, Size: 3, Strength: 0.5, Fall: 0.25}, large + 2, 11, -9, api.Pixel{0.18, 0.5, 0.9, 1}, [3]uint32{0xbd1acf64, 0x3f1f7ee3, 0x3f5db5f9}},
		{api.Grain{Seed: 7, Size: 3, Strength: 0.5, Fall: 0.25, Mono: true}, 2, 9, -8, api.Pixel{0.18, 0.5, 0.9, 1}, [3]uint32{0xbd1acf64, 0x3e99d47a, 0x3f39273d}},
		{api.Grain{Seed: 0xfffffffe, Size: 16, Strength: 4, Fall: 4}, -5, -far, far, api.Pixel{0.125, -0.5, 2, 1}, [3]uint32{0x3cabd840, 0xbee94fd0, 0x40000000}},
	} {
		got, e := finish.Grained(c.grain, c.number, c.x, c.y, c.pixel)
		checkError(t, e, api.OK, c)
		checkPixel(t, got, api.Pixel{single(c.want[0]), single(c.want[1]), single(c.want[2]), 1}, c)
	}
}

// wantGrained is what Grained returns.
func wantGrained(g api.Grain, number, x, y int, p api.Pixel) api.Pixel {
	a := int(math.Floor(float64(x) / float64(g.Size)))
	b := int(math.Floor(float64(y) / float64(g.Size)))
	seed := uint32(int(g.Seed) ^ number&math.MaxUint32)
	return colouredBy(p, func(channel int, c float32) float32 {
		n := 4 * channel
		if g.Mono {
			n = 0
		}
		first := add(unit(seed, a, b, n), unit(seed, a, b, n+1))
		second := add(unit(seed, a, b, n+2), unit(seed, a, b, n+3))
		noise := sub(mul(add(first, second), 0.5), 1)
		w := limit(sub(1, mul(g.Fall, c)), 0, 1)
		return add(c, mul(mul(noise, g.Strength), w))
	})
}

// grain returns grain without errors.
func (m *mixer) grain() api.Grain {
	g := api.Grain{Seed: m.next(), Size: m.from(1, 16), Strength: m.between(0, 4), Fall: m.between(0, 4), Mono: m.below(2) == 0}
	switch m.below(6) {
	case 0:
		g.Strength = 0
	case 1:
		g.Fall = 0
	case 2:
		g.Strength, g.Fall = 4, minusZero()
	}
	return g
}

func TestP135Grained(t *testing.T) {
	m := mixer{}
	for range 40000 {
		g, p := m.grain(), pixelOf(m.wild)
		number := int(m.next())<<32 | int(m.next())
		x, y := m.from(-40, 40), m.from(-far, far)
		if m.below(2) == 0 {
			number, p = m.from(-3, 3), pixelOf(m.rare)
			x, y = y, x
		}
		got, e := finish.Grained(g, number, x, y, p)
		checkError(t, e, api.OK, "Grained", g, x, y)
		checkPixel(t, got, wantGrained(g, number, x, y, p), "Grained", g, number, x, y, p)
	}
}

// Squares have the same noise, whatever the signs of their coordinates are.
func TestP135GrainOfSquares(t *testing.T) {
	g := api.Grain{Seed: 3, Size: 4, Strength: 1}
	at := func(x, y int) api.Pixel {
		p, e := finish.Grained(g, 0, x, y, api.Pixel{})
		checkError(t, e, api.OK, "Grained", x, y)
		return p
	}
	seen := map[api.Pixel]bool{}
	for y := -12; y < 12; y += 4 {
		for x := -12; x < 12; x += 4 {
			p := at(x, y)
			if seen[p] {
				t.Error("two squares have the same noise:", x, y)
			}
			seen[p] = true
			for i := range 16 {
				if q := at(x+i%4, y+i/4); q != p {
					t.Error("a square has two noises:", x, y, i, p, q)
				}
			}
		}
	}
}

// What hangs on the value: with Fall there is none left from 1 / Fall on.
func TestP135GrainedEdges(t *testing.T) {
	strong := api.Grain{Seed: 1, Size: 1, Strength: 4}
	falling := api.Grain{Seed: 1, Size: 1, Strength: 4, Fall: 2}
	none := api.Grain{Seed: 1, Size: 1}
	for _, c := range []struct {
		grain       api.Grain
		value       float32
		want, want2 float32
	}{
		{falling, 0.5, 0.5, 0.5}, {falling, 2, 2, 2}, {falling, greatest, greatest, greatest}, {falling, infinity(), infinity(), infinity()}, {falling, -infinity(), -infinity(), -infinity()},
		{strong, infinity(), nan(), nan()}, {strong, -infinity(), nan(), nan()}, {none, infinity(), nan(), nan()}, {falling, oddNaN(), nan(), nan()}, {none, oddNaN(), nan(), nan()},
		{none, 0.25, 0.25, 0.25}, {none, least, least, least}, {none, -1, -1, -1}, {none, 0, 0, 0},
		// The noise of red is above 0, that of green below it: so a product with 0 is 0 or -0.
		{none, minusZero(), 0, minusZero()}, {strong, -greatest, -greatest, -greatest},
	} {
		p, e := finish.Grained(c.grain, 0, 0, 0, api.Pixel{c.value, c.value, c.value, oddNaN()})
		checkError(t, e, api.OK, c)
		check(t, p[0], c.want, "red", c)
		check(t, p[1], c.want2, "green", c)
		check(t, p[3], nan(), "alpha", c)
	}
	for _, alpha := range oddities() {
		p, _ := finish.Grained(strong, 0, 0, 0, api.Pixel{0, 0, 0, alpha})
		check(t, p[3], alpha, "alpha")
	}
}

func TestP135GrainedErrors(t *testing.T) {
	for _, c := range badGrains() {
		for _, x := range []int{0, far + 1} {
			got, e := finish.Grained(c.grain, 1, x, 0, api.Pixel{1, 2, 3, 4})
			refused(t, got, e, c.error, "Grained", c.grain, x)
		}
	}
	good := api.Grain{Size: 5, Strength: 1}
	for _, n := range append(badInts(), far+1, -far-1) {
		got, e := finish.Grained(good, 1, n, 0, api.Pixel{1, 2, 3, 4})
		refused(t, got, e, api.ErrPlace, "Grained at x", n)
		got, e = finish.Grained(good, 1, 0, n, api.Pixel{1, 2, 3, 4})
		refused(t, got, e, api.ErrPlace, "Grained at y", n)
	}
	for _, n := range []int{far, -far} {
		_, e := finish.Grained(good, math.MinInt, n, -n, api.Pixel{})
		checkError(t, e, api.OK, "Grained", n)
	}
}

func TestP135Grain(t *testing.T) {
	m := mixer{}
	for range 400 {
		f, g, number := frameOf(m.region(), m.rare), m.grain(), int(m.next())<<32|int(m.next())
		got, e := finish.Grain(f, g, number)
		checkFrame(t, got, e, f.Region, pixelsOf(f.Region, func(x, y int) api.Pixel {
			return wantGrained(g, number, x, y, pixelAt(f, x, y))
		}), "Grain", g, number, f.Region)
	}
	f := frameOf(api.Region{X: far - 256, Y: -far, W: 256, H: 64}, m.share)
	g := m.grain()
	got, e := finish.Grain(f, g, -1)
	checkFrame(t, got, e, f.Region, pixelsOf(f.Region, func(x, y int) api.Pixel {
		return wantGrained(g, -1, x, y, pixelAt(f, x, y))
	}), "Grain of a large frame")
}

func TestP135GrainErrors(t *testing.T) {
	for _, c := range badFrames() {
		for _, g := range []api.Grain{{Size: 1}, {}, {Size: 1, Strength: oddNaN()}} {
			got, e := finish.Grain(c.frame, g, 0)
			refusedFrame(t, got, e, c.error, "Grain", c.frame.Region)
		}
	}
	m := mixer{}
	f := frameOf(api.Region{W: 2, H: 2}, m.share)
	for _, c := range badGrains() {
		got, e := finish.Grain(f, c.grain, 0)
		refusedFrame(t, got, e, c.error, "Grain", c.grain)
	}
}
