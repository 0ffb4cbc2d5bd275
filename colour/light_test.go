package colour_test

import (
	"math"
	"testing"

	"dyehouse/api"
	"dyehouse/colour"
	"dyehouse/num"
)

// wantFelt is f.
func wantFelt(v float32) float32 {
	if v > 0.008856 {
		return num.Power(v, div(1, 3))
	}
	return add(mul(v, 7.787), div(16, 116))
}

func wantLab(p api.Pixel, s api.Primaries) [3]float32 {
	light, white := wantApply(wantToXYZ(s), p), wantXYZ(s.White)
	var f [3]float32
	for i := range f {
		f[i] = wantFelt(div(light[i], float32(white[i])))
	}
	return [3]float32{sub(mul(116, f[1]), 16), mul(500, sub(f[0], f[1])), mul(200, sub(f[1], f[2]))}
}

func checkLab(t *testing.T, p api.Pixel, s api.Primaries, want [3]float32) {
	t.Helper()
	l, e := colour.Lab(p, s)
	checkList(t, l[:], want[:], "Lab", p, s)
	if e != api.OK {
		t.Errorf("Lab(%v, %v): %d", p, s, e)
	}
}

func TestP54Lab(t *testing.T) {
	m := mixer{}
	for range 1000 {
		s := m.primaries()
		for _, p := range []api.Pixel{pixel(m.plain), pixel(m.wild), pixel(func() float32 { return m.between(0, 1) }), pixel(func() float32 { return m.between(0, 0.01) })} {
			checkLab(t, p, s, wantLab(p, s))
			none := with(s, 3, api.Spot{X: 0, Y: 0.5}) // the X of white is 0
			checkLab(t, p, none, wantLab(p, none))
		}
	}
	linear := known(t, "linear").Primaries
	for _, c := range []struct {
		p    api.Pixel
		want [3]float32
	}{
		{api.Pixel{1, 1, 1, 1}, [3]float32{100, 0, 0}},
		{api.Pixel{0, 0, 0, 1}, [3]float32{0, 0, 0}},
		{api.Pixel{1, 0, 0, 1}, [3]float32{53.24, 80.09, 67.2}},
		{api.Pixel{0, 1, 0, 1}, [3]float32{87.73, -86.18, 83.18}},
		{api.Pixel{0, 0, 1, 1}, [3]float32{32.3, 79.19, -107.86}},
	} {
		l, e := colour.Lab(c.p, linear)
		if e != api.OK || farthest(l[:], c.want[:]) > 0.1 {
			t.Errorf("Lab(%v): %v, error %d, want about %v", c.p, l, e, c.want)
		}
	}
}

func TestP54LabEdges(t *testing.T) {
	// Of a white that is red, the shares are the red of the pixel.
	p, nan, inf := with(plainPrimaries(), 3, plainPrimaries().Red), oddNaN(), infinity()
	const edge = float32(0.008856)
	for _, v := range []float32{edge, above(edge), below(edge), 1, 8, 0, minusZero(), single(1), -single(1), -1, -8, 1e38, -1e36} {
		checkLab(t, api.Pixel{v, 0, 0, 1}, p, [3]float32{sub(mul(116, wantFelt(v)), 16), 0, 0})
	}
	checkLab(t, api.Pixel{8, 0, 0, 1}, p, [3]float32{216, 0, 0})
	checkLab(t, api.Pixel{-1, 0, 0, nan}, p, wantLab(api.Pixel{-1, 0, 0, 1}, p)) // alpha does not matter
	checkLab(t, api.Pixel{inf, 0, 0, 1}, p, [3]float32{inf, nan, nan})
	checkLab(t, api.Pixel{-inf, 0, 0, 1}, p, [3]float32{-inf, nan, nan})
	checkLab(t, api.Pixel{nan, 0, 0, 1}, p, [3]float32{nan, nan, nan})
	for p, want := range badPrimaries() {
		l, e := colour.Lab(api.Pixel{1, 1, 1, 1}, p)
		refused(t, l, e, want, "Lab", p)
	}
	for _, p := range flat() {
		l, e := colour.Lab(api.Pixel{1, 1, 1, 1}, p)
		refused(t, l, e, api.ErrRange, "Lab", p)
	}
}

func TestP54Differ(t *testing.T) {
	m, nan, inf := mixer{}, oddNaN(), infinity()
	want := func(a, b [3]float32) float32 {
		var q [3]float32
		for i := range q {
			q[i] = mul(sub(a[i], b[i]), sub(a[i], b[i]))
		}
		return float32(math.Sqrt(float64(add(add(q[0], q[1]), q[2]))))
	}
	for range 3000 {
		a, b := [3]float32{m.plain(), m.plain(), m.plain()}, [3]float32{m.plain(), m.plain(), m.plain()}
		check(t, colour.Differ(a, b), want(a, b), "Differ", a, b)
		a, b = [3]float32{m.wild(), m.plain(), m.wild()}, [3]float32{m.wild(), m.wild(), m.plain()}
		check(t, colour.Differ(a, b), want(a, b), "Differ", a, b)
	}
	for _, c := range []struct {
		a, b [3]float32
		want float32
	}{
		{[3]float32{1, 2, 3}, [3]float32{3, 5, 9}, 7},
		{[3]float32{minusZero(), 0, 0}, [3]float32{}, 0},
		{[3]float32{1e-30, 0, 0}, [3]float32{}, 0}, // the square is lost
		{[3]float32{1e20, 0, 0}, [3]float32{}, inf},
		{[3]float32{inf, 0, 0}, [3]float32{}, inf},
		{[3]float32{inf, 0, 0}, [3]float32{inf, 0, 0}, nan},
		{[3]float32{0, 0, nan}, [3]float32{}, nan},
	} {
		check(t, colour.Differ(c.a, c.b), c.want, "Differ", c.a, c.b)
	}
}

// wantWhite is the white of a light of a temperature.
func wantWhite(kelvin float32) api.Spot {
	t := over(1000, float64(kelvin))
	x := plus(times(plus(times(plus(times(-4.607, t), 2.9678), t), 0.09911), t), 0.244063)
	if kelvin > 7000 {
		x = plus(times(plus(times(plus(times(-3.0258469, t), 2.1070379), t), 0.2226347), t), 0.24039)
	}
	y := minus(times(plus(times(-3, x), 2.87), x), 0.275)
	return api.Spot{X: float32(x), Y: float32(y)}
}

func TestP55White(t *testing.T) {
	m := mixer{}
	temperatures := []float32{2000, above(2000), below(7000), 7000, above(7000), below(25000), 25000, 5000, 6504}
	for range 3000 {
		temperatures = append(temperatures, m.between(2000, 25000), m.between(2000, 7000))
	}
	for _, kelvin := range temperatures {
		s, e := colour.White(kelvin)
		want := wantWhite(kelvin)
		checkList(t, []float32{s.X, s.Y}, []float32{want.X, want.Y}, "White", kelvin)
		if e != api.OK {
			t.Errorf("White(%v): %d", kelvin, e)
		}
	}
	for kelvin, want := range map[float32]api.Spot{5000: {X: 0.3457, Y: 0.3587}, 6504: {X: 0.3127, Y: 0.3291}, 10000: {X: 0.2807, Y: 0.2943}} {
		if s, _ := colour.White(kelvin); farthest([]float32{s.X, s.Y}, []float32{want.X, want.Y}) > 1e-4 {
			t.Errorf("White(%v): %v, want about %v", kelvin, s, want)
		}
	}
	for _, kelvin := range append(noNumbers(), below(2000), above(25000), 0, minusZero(), -5000, 3e38, single(1)) {
		s, e := colour.White(kelvin)
		refused(t, s, e, api.ErrRange, "White", kelvin)
	}
}

// wantWarm is what Warm makes of a pixel.
func wantWarm(s api.Space, from, to float32) func(p api.Pixel) api.Pixel {
	light := wantToXYZ(s.Primaries)
	m := wantMultiply(wantInverse(light), wantMultiply(wantAdapt(wantWhite(from), wantWhite(to)), light))
	return func(p api.Pixel) api.Pixel {
		return codedPixel(wantEncode, s.Transfer, wantApply(m, codedPixel(wantDecode, s.Transfer, p)))
	}
}

// warmed is Warm with all but the frame given.
func warmed(s api.Space, from, to float32) func(f api.Frame) (api.Frame, api.Errno) {
	return func(f api.Frame) (api.Frame, api.Errno) { return colour.Warm(f, s, from, to) }
}

func TestP55Warm(t *testing.T) {
	m := mixer{}
	for _, s := range knownSpaces() {
		for _, c := range [][2]float32{{6500, 5000}, {2000, 25000}, {25000, 2000}, {7000, 7000}, {m.between(2000, 25000), m.between(2000, 25000)}} {
			checkFrame(t, warmed(s, c[0], c[1]), m.frame(-3, 7, 9, 8), wantWarm(s, c[0], c[1]), "Warm", s.Name, c)
		}
	}
	f := api.Frame{Region: api.Region{W: 1, H: 1}, V: []float32{0.5, 0.5, 0.5, 0.25}}
	g, e := colour.Warm(f, known(t, "linear"), 6500, 4000)
	if e != api.OK || len(g.V) != 4 || g.V[0] < 0.6 || g.V[2] > 0.35 || g.V[3] != 0.25 {
		t.Errorf("Warm of grey: %v, error %d", g, e)
	}
}

func TestP55WarmErrors(t *testing.T) {
	m, good := mixer{}, named("good")
	f := m.frame(0, 0, 2, 2)
	for i, b := range badFrames() {
		g, e := colour.Warm(b, api.Space{}, 0, 0)
		refusedFrame(t, g, e, frameErrors()[i], "Warm of a bad frame", i)
	}
	for s, want := range badSpaces() {
		g, e := colour.Warm(f, s, 6500, 5000)
		refusedFrame(t, g, e, want, "Warm in", s)
		g, e = colour.Warm(f, s, 0, 0)
		refusedFrame(t, g, e, want, "Warm in", s)
	}
	for _, kelvin := range append(noNumbers(), below(2000), above(25000), 0) {
		g, e := colour.Warm(f, good, kelvin, 5000)
		refusedFrame(t, g, e, api.ErrRange, "Warm from", kelvin)
		g, e = colour.Warm(f, good, 5000, kelvin)
		refusedFrame(t, g, e, api.ErrRange, "Warm to", kelvin)
	}
	good.Primaries = with(plainPrimaries(), 3, plainPrimaries().Red) // its ToXYZ has no inverse
	g, e := colour.Warm(f, good, 5000, 6500)
	refusedFrame(t, g, e, api.ErrRange, "Warm of a white that is red")
}
