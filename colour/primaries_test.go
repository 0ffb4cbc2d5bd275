package colour_test

import (
	"math"
	"testing"

	"dyehouse/api"
	"dyehouse/colour"
)

// wantXYZ are the XYZ of a spot.
func wantXYZ(s api.Spot) [3]float64 {
	x, y := float64(s.X), float64(s.Y)
	return [3]float64{over(x, y), 1, over(minus(minus(1, x), y), y)}
}

func wantToXYZ(p api.Primaries) api.Matrix {
	r, g, b := wantXYZ(p.Red), wantXYZ(p.Green), wantXYZ(p.Blue)
	m := api.Matrix{r[0], g[0], b[0], r[1], g[1], b[1], r[2], g[2], b[2]}
	s := wantTransform(wantInverse(m), wantXYZ(p.White))
	for i := range m {
		m[i] = times(m[i], s[i%3])
	}
	return m
}

func wantAdapt(from, to api.Spot) api.Matrix {
	k := api.Matrix{0.8951, 0.2664, -0.1614, -0.7502, 1.7135, 0.0367, 0.0389, -0.0685, 1.0296}
	a, b := wantTransform(k, wantXYZ(from)), wantTransform(k, wantXYZ(to))
	d := diagonal(over(b[0], a[0]), over(b[1], a[1]), over(b[2], a[2]))
	return wantMultiply(wantMultiply(wantInverse(k), d), k)
}

func wantBetween(from, to api.Primaries) api.Matrix {
	light := wantToXYZ(from)
	if from.White != to.White {
		light = wantMultiply(wantAdapt(from.White, to.White), light)
	}
	return wantMultiply(wantInverse(wantToXYZ(to)), light)
}

// closeTo tells of a matrix that is not about want.
func closeTo(t *testing.T, got api.Matrix, e api.Errno, want api.Matrix, by float64, what ...any) {
	t.Helper()
	for i, v := range want {
		if e != api.OK || !(math.Abs(got[i]-v) <= by) {
			t.Errorf("%v: got %v, error %d, want about %v", what, got, e, want)
			return
		}
	}
}

// with returns p with another spot at a place: 0 red to 3 white.
func with(p api.Primaries, i int, s api.Spot) api.Primaries {
	*[]*api.Spot{&p.Red, &p.Green, &p.Blue, &p.White}[i] = s
	return p
}

// plainPrimaries have exact doubles all over.
func plainPrimaries() api.Primaries {
	return api.Primaries{Red: api.Spot{X: 0.5, Y: 0.25}, Green: api.Spot{X: 0.25, Y: 0.5}, Blue: api.Spot{X: 0.25, Y: 0.25}, White: api.Spot{X: 0.3125, Y: 0.3125}}
}

// badSpots are spots with the errors that they have.
func badSpots() map[api.Spot]api.Errno {
	const least = 0x1p-10
	l := map[api.Spot]api.Errno{}
	for _, v := range []float32{infinity(), -infinity()} {
		l[api.Spot{X: v, Y: 0.5}] = api.ErrForm
		l[api.Spot{X: 0.5, Y: v}] = api.ErrForm
		l[api.Spot{X: v, Y: 0}] = api.ErrForm
		l[api.Spot{X: 3, Y: v}] = api.ErrForm
	}
	for _, v := range []float32{below(-1), above(2), 3e38, -3e38} {
		l[api.Spot{X: v, Y: 0.5}] = api.ErrRange
		l[api.Spot{X: 0.5, Y: v}] = api.ErrRange
	}
	for _, v := range []float32{0, minusZero(), single(1), single(0x80000001), below(least), above(-least)} {
		l[api.Spot{X: 0.5, Y: v}] = api.ErrRange
	}
	return l
}

// badPrimaries are primaries of which one spot or two are bad, with the errors
// that they have.
func badPrimaries() map[api.Primaries]api.Errno {
	l, form, wide := map[api.Primaries]api.Errno{}, api.Spot{X: infinity(), Y: 0.5}, api.Spot{X: 0.5, Y: 3}
	for i := range 4 {
		for s, e := range badSpots() {
			l[with(plainPrimaries(), i, s)] = e
		}
		for k := range i {
			l[with(with(plainPrimaries(), k, form), i, wide)] = api.ErrForm
			l[with(with(plainPrimaries(), k, wide), i, form)] = api.ErrRange
		}
	}
	return l
}

// flat are primaries whose three lights are in one line.
func flat() []api.Primaries {
	p := plainPrimaries()
	return []api.Primaries{
		with(p, 0, p.Green), with(p, 0, p.Blue), with(p, 1, p.Blue),
		{Red: api.Spot{X: 0.25, Y: 0.25}, Green: api.Spot{X: 0.5, Y: 0.25}, Blue: api.Spot{X: 0.75, Y: 0.25}, White: p.White},
	}
}

func TestP47CheckPrimaries(t *testing.T) {
	for p, want := range badPrimaries() {
		if e := colour.CheckPrimaries(p); e != want {
			t.Errorf("CheckPrimaries(%v): %d, want %d", p, e, want)
		}
	}
	for _, nan := range []float32{single(nanBits), oddNaN()} { // no keys of a map
		for i := range 4 {
			for _, s := range []api.Spot{{X: nan, Y: 0.5}, {X: 0.5, Y: nan}, {X: nan, Y: 0}, {X: 3, Y: nan}} {
				if e := colour.CheckPrimaries(with(plainPrimaries(), i, s)); e != api.ErrForm {
					t.Errorf("CheckPrimaries with %v: %d", s, e)
				}
			}
		}
	}
	for i := range 4 {
		for _, s := range []api.Spot{
			{X: -1, Y: 2}, {X: 2, Y: -1}, {X: 0, Y: 0x1p-10}, {X: minusZero(), Y: -0x1p-10}, {X: single(1), Y: 1}, {X: single(0x80000001), Y: 1}, {X: 0.3, Y: above(0x1p-10)},
		} {
			if e := colour.CheckPrimaries(with(plainPrimaries(), i, s)); e != api.OK {
				t.Errorf("CheckPrimaries with %v: %d", s, e)
			}
		}
	}
	for _, p := range flat() { // is an error of other functions
		if e := colour.CheckPrimaries(p); e != api.OK {
			t.Errorf("CheckPrimaries(%v): %d", p, e)
		}
	}
}

func TestP47ToXYZ(t *testing.T) {
	m := mixer{}
	for range 500 {
		p := m.primaries()
		got, e := colour.ToXYZ(p)
		checkMatrix(t, got, e, wantToXYZ(p), "ToXYZ", p)
		p = with(p, int(m.next()%4), api.Spot{X: m.between(-1, 2), Y: -m.between(0.1, 1)})
		got, e = colour.ToXYZ(p)
		checkMatrix(t, got, e, wantToXYZ(p), "ToXYZ", p)
		p = with(p, int(m.next()%4), api.Spot{X: m.between(-1, 1) * 0x1p-52, Y: m.between(0.5, 2)}) // 1 - X is rounded
		got, e = colour.ToXYZ(p)
		checkMatrix(t, got, e, wantToXYZ(p), "ToXYZ", p)
	}
	got, e := colour.ToXYZ(known(t, "linear").Primaries)
	closeTo(t, got, e, api.Matrix{0.4124, 0.3576, 0.1805, 0.2126, 0.7152, 0.0722, 0.0193, 0.1192, 0.9505}, 1e-4, "ToXYZ of video's lights")
	p := plainPrimaries()
	got, e = colour.ToXYZ(with(p, 3, p.Red)) // white is red alone
	checkMatrix(t, got, e, api.Matrix{2, 0, 0, 1, 0, 0, 1, 0, 0}, "ToXYZ of a white that is red")
}

func TestP47ToXYZErrors(t *testing.T) {
	for p, want := range badPrimaries() {
		m, e := colour.ToXYZ(p)
		refused(t, m, e, want, "ToXYZ", p)
	}
	for _, p := range flat() {
		m, e := colour.ToXYZ(p)
		refused(t, m, e, api.ErrRange, "ToXYZ", p)
		m, e = colour.ToXYZ(with(p, 3, api.Spot{X: oddNaN(), Y: 0.5}))
		refused(t, m, e, api.ErrForm, "ToXYZ", p)
	}
}

func TestP48Adapt(t *testing.T) {
	m := mixer{}
	for range 500 {
		a, b := m.spot(), m.spot()
		got, e := colour.Adapt(a, b)
		checkMatrix(t, got, e, wantAdapt(a, b), "Adapt", a, b)
	}
	// From the light of day to a warmer one, as it is told elsewhere.
	got, e := colour.Adapt(api.Spot{X: 0.3127, Y: 0.329}, api.Spot{X: 0.3457, Y: 0.3585})
	closeTo(t, got, e, api.Matrix{1.0479, 0.0229, -0.0502, 0.0296, 0.9904, -0.0171, -0.0092, 0.0151, 0.7519}, 3e-4, "Adapt")
	s := api.Spot{X: 0.3127, Y: 0.329}
	got, e = colour.Adapt(s, s)
	checkMatrix(t, got, e, wantAdapt(s, s), "Adapt to the same white")
	for i, dark := range darkSpots() { // b may have an element that is 0
		got, e = colour.Adapt(s, dark)
		checkMatrix(t, got, e, wantAdapt(s, dark), "Adapt to", i)
	}
}

// darkSpots have a 0 as an element of K times their XYZ: the first, second,
// third one.
func darkSpots() []api.Spot {
	return []api.Spot{
		{X: single(1033010668), Y: single(1045262811)},
		{X: single(1056315264), Y: single(1045467170)},
		{X: single(1062182366), Y: single(1045619000)},
	}
}

func TestP48AdaptErrors(t *testing.T) {
	good, form, wide := api.Spot{X: 0.3, Y: 0.3}, api.Spot{X: oddNaN(), Y: 0}, api.Spot{X: 0.5, Y: 0}
	for s, want := range badSpots() {
		m, e := colour.Adapt(s, good)
		refused(t, m, e, want, "Adapt from", s)
		m, e = colour.Adapt(good, s)
		refused(t, m, e, want, "Adapt to", s)
		m, e = colour.Adapt(s, form)
		refused(t, m, e, want, "Adapt of two", s)
		m, e = colour.Adapt(s, wide)
		refused(t, m, e, want, "Adapt of two", s)
	}
	for i, s := range darkSpots() {
		m, e := colour.Adapt(s, good)
		refused(t, m, e, api.ErrRange, "Adapt from a dark one", i)
		m, e = colour.Adapt(s, form)
		refused(t, m, e, api.ErrForm, "Adapt of two", i)
		s.X = above(s.X)
		if _, e := colour.Adapt(s, good); e != api.OK {
			t.Errorf("Adapt from a light that is nearly dark: %d", e)
		}
	}
}

func TestP48Between(t *testing.T) {
	m := mixer{}
	for range 500 {
		a, b := m.primaries(), m.primaries()
		got, e := colour.Between(a, b)
		checkMatrix(t, got, e, wantBetween(a, b), "Between", a, b)
		b.White = a.White
		got, e = colour.Between(a, b)
		checkMatrix(t, got, e, wantBetween(a, b), "Between of one white", a, b)
	}
	linear, wide := known(t, "linear").Primaries, known(t, "wide").Primaries
	got, e := colour.Between(linear, wide)
	closeTo(t, got, e, api.Matrix{0.6274, 0.3293, 0.0433, 0.0691, 0.9195, 0.0114, 0.0164, 0.0880, 0.8956}, 1e-4, "Between of linear and wide")
	got, e = colour.Between(linear, linear)
	checkMatrix(t, got, e, wantBetween(linear, linear), "Between of linear and itself")
	closeTo(t, got, e, diagonal(1, 1, 1), 1e-14, "Between of linear and itself")
}

func TestP48BetweenOfEqualWhites(t *testing.T) {
	a := with(plainPrimaries(), 3, api.Spot{X: 0, Y: 0.7})
	b := with(known(t, "wide").Primaries, 3, api.Spot{X: minusZero(), Y: 0.7})
	got, e := colour.Between(a, b)
	checkMatrix(t, got, e, wantMultiply(wantInverse(wantToXYZ(b)), wantToXYZ(a)), "Between of zeros of both signs")
	adapted := wantMultiply(wantInverse(wantToXYZ(b)), wantMultiply(wantAdapt(a.White, b.White), wantToXYZ(a)))
	if adapted == got {
		t.Error("the whites show no difference")
	}
	a.White, b.White = darkSpots()[0], darkSpots()[0] // from which nothing can be adapted
	got, e = colour.Between(a, b)
	checkMatrix(t, got, e, wantBetween(a, b), "Between of dark whites")
}

func TestP48BetweenErrors(t *testing.T) {
	good := plainPrimaries()
	for p, want := range badPrimaries() {
		m, e := colour.Between(p, good)
		refused(t, m, e, want, "Between from", p)
		m, e = colour.Between(good, p)
		refused(t, m, e, want, "Between to", p)
		m, e = colour.Between(flat()[0], p)
		refused(t, m, e, want, "Between from what is flat, to", p)
		m, e = colour.Between(p, with(good, 0, api.Spot{X: oddNaN(), Y: 0.5}))
		refused(t, m, e, want, "Between of two", p)
		m, e = colour.Between(p, with(good, 0, api.Spot{X: 0.5, Y: 0}))
		refused(t, m, e, want, "Between of two", p)
	}
	for _, p := range flat() {
		m, e := colour.Between(p, good)
		refused(t, m, e, api.ErrRange, "Between from", p)
		m, e = colour.Between(good, p)
		refused(t, m, e, api.ErrRange, "Between to", p)
	}
	m, e := colour.Between(with(good, 3, darkSpots()[1]), good)
	refused(t, m, e, api.ErrRange, "Between from a dark white")
	m, e = colour.Between(good, with(good, 3, good.Red)) // its ToXYZ has no inverse
	refused(t, m, e, api.ErrRange, "Between to a white that is red")
	_, e = colour.Between(with(good, 3, good.Red), good)
	if e != api.OK {
		t.Errorf("Between from a white that is red: %d", e)
	}
}
