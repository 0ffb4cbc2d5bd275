package colour_test

import (
	"math"
	"slices"
	"strings"
	"testing"

	"dyehouse/api"
	"dyehouse/colour"
)

// knownSpaces are those of the document's table, by its numbers.
func knownSpaces() []api.Space {
	of := func(name string, t api.Transfer, n ...float32) api.Space {
		return api.Space{Name: name, Transfer: t, Primaries: api.Primaries{
			Red: api.Spot{X: n[0], Y: n[1]}, Green: api.Spot{X: n[2], Y: n[3]}, Blue: api.Spot{X: n[4], Y: n[5]}, White: api.Spot{X: n[6], Y: n[7]},
		}}
	}
	return []api.Space{
		of("linear", linear(), 0.64, 0.33, 0.3, 0.6, 0.15, 0.06, 0.3127, 0.329),
		of("video", kneed(2.4, 0.055, 12.92), 0.64, 0.33, 0.3, 0.6, 0.15, 0.06, 0.3127, 0.329),
		of("cinema", gamma(2.6), 0.68, 0.32, 0.265, 0.69, 0.15, 0.06, 0.314, 0.351),
		of("wide", gamma(2.4), 0.708, 0.292, 0.17, 0.797, 0.131, 0.046, 0.3127, 0.329),
		of("scene", linear(), 0.713, 0.293, 0.165, 0.83, 0.128, 0.044, 0.32168, 0.33767),
		of("film", logged(256, 0.0625), 0.713, 0.293, 0.165, 0.83, 0.128, 0.044, 0.32168, 0.33767),
	}
}

func TestP50KnownAndNames(t *testing.T) {
	var names []string
	for _, want := range knownSpaces() {
		names = append(names, want.Name)
		s, e := colour.Known(want.Name)
		if s != want || e != api.OK {
			t.Errorf("Known(%q): %v, error %d, want %v", want.Name, s, e, want)
		}
		if e := colour.CheckSpace(s); e != api.OK {
			t.Errorf("CheckSpace(%q): %d", want.Name, e)
		}
	}
	l := colour.Names()
	if !slices.Equal(l, names) {
		t.Errorf("Names: %v, want %v", l, names)
	}
	for i := range l {
		l[i] = "changed"
	}
	if !slices.Equal(colour.Names(), names) {
		t.Error("Names shares memory")
	}
	for _, name := range []string{"", "Linear", "linear ", " linear", "linea", "linearr", "none", "film\x00", strings.Repeat("a", 41)} {
		s, e := colour.Known(name)
		refused(t, s, e, api.ErrName, "Known", name)
	}
}

// named is the space called video, with another name.
func named(name string) api.Space {
	s := knownSpaces()[1]
	s.Name = name
	return s
}

// badSpaces are spaces with the errors that they have.
func badSpaces() map[api.Space]api.Errno {
	l := map[api.Space]api.Errno{{}: api.ErrName}
	for _, name := range []string{"", strings.Repeat("a", 41), "Video", "a b", "a_b", "`", "{", "/", ":", ",", ".", "a\n", "\x00", "é", "\xff", "-A"} {
		l[named(name)] = api.ErrName
		l[api.Space{Name: name}] = api.ErrName
	}
	form, wide := api.Spot{X: infinity(), Y: 0.5}, api.Spot{X: 3, Y: 0.5}
	for i, c := range []api.Transfer{{}, {Kind: 2, A: infinity()}, {Kind: 2}} {
		want := []api.Errno{api.ErrKind, api.ErrForm, api.ErrRange}[i]
		s := named("bad")
		s.Transfer = c
		l[s] = want
		s.Primaries = flat()[0]
		l[s] = want
		s.Primaries = with(flat()[0], 3, form)
		l[s] = api.ErrForm
		s.Primaries = with(plainPrimaries(), 0, wide)
		l[s] = api.ErrRange
		s.Name = "Bad"
		l[s] = api.ErrName
	}
	for _, p := range flat() {
		s := named("flat")
		s.Primaries = p
		l[s] = api.ErrRange
	}
	for p, e := range badPrimaries() {
		s := named("bad")
		s.Primaries = p
		l[s] = e
	}
	return l
}

func TestP50CheckSpace(t *testing.T) {
	for s, want := range badSpaces() {
		if e := colour.CheckSpace(s); e != want {
			t.Errorf("CheckSpace(%v): %d, want %d", s, e, want)
		}
	}
	for _, name := range []string{"a", "z", "0", "9", "-", "a-0-z-9", strings.Repeat("z", 40), "unknown"} {
		if e := colour.CheckSpace(named(name)); e != api.OK {
			t.Errorf("CheckSpace of %q: %d", name, e)
		}
	}
	s := named("odd")
	s.Transfer.C = oddNaN()
	if e := colour.CheckSpace(s); e != api.ErrForm {
		t.Errorf("CheckSpace of a NaN: %d", e)
	}
}

// codedPixel is p with its colours changed by Encode's or Decode's reference.
func codedPixel(code func(api.Transfer, float32) float32, t api.Transfer, p api.Pixel) api.Pixel {
	for i := range 3 {
		p[i] = code(t, p[i])
	}
	return p
}

// wantConvert is what Convert makes of a pixel.
func wantConvert(from, to api.Space) func(p api.Pixel) api.Pixel {
	if from.Primaries == to.Primaries {
		return func(p api.Pixel) api.Pixel {
			if from.Transfer == to.Transfer {
				return p
			}
			return codedPixel(wantEncode, to.Transfer, codedPixel(wantDecode, from.Transfer, p))
		}
	}
	m := wantBetween(from.Primaries, to.Primaries)
	return func(p api.Pixel) api.Pixel {
		return codedPixel(wantEncode, to.Transfer, wantApply(m, codedPixel(wantDecode, from.Transfer, p)))
	}
}

// converted is Convert with its spaces given.
func converted(from, to api.Space) func(f api.Frame) (api.Frame, api.Errno) {
	return func(f api.Frame) (api.Frame, api.Errno) { return colour.Convert(f, from, to) }
}

func TestP51Convert(t *testing.T) {
	m := mixer{}
	for _, from := range knownSpaces() {
		for _, to := range knownSpaces() {
			checkFrame(t, converted(from, to), m.frame(-3, 7, 9, 8), wantConvert(from, to), "Convert", from.Name, to.Name)
		}
	}
	for _, curve := range transfers() {
		from, to := api.Space{Name: "a", Primaries: m.primaries(), Transfer: curve}, api.Space{Name: "b", Primaries: m.primaries(), Transfer: curve}
		checkFrame(t, converted(from, to), m.frame(0, 0, 5, 4), wantConvert(from, to), "Convert", curve)
	}
	f := api.Frame{Region: api.Region{X: 1, Y: 2, W: 1, H: 1}, V: []float32{1, 0, 0, 0.25}}
	g, e := colour.Convert(f, known(t, "linear"), known(t, "wide"))
	want := []float64{0.8235, 0.3285, 0.1802, 0.25}
	if e != api.OK || len(g.V) != 4 {
		t.Fatalf("Convert: %v, error %d", g, e)
	}
	for i, v := range g.V {
		if math.Abs(float64(v)-want[i]) > 5e-4 {
			t.Errorf("Convert of red: %v, want about %v", g.V, want)
		}
	}
}

func TestP51ConvertOfEqualOnes(t *testing.T) {
	m, zero := mixer{7}, minusZero()
	f := m.frame(2, 2, 8, 8)
	for _, s := range knownSpaces() {
		other := s
		other.Name = "other" // does not matter
		checkFrame(t, converted(s, other), f, func(p api.Pixel) api.Pixel { return p }, "Convert to the same", s.Name)
	}
	from, to := named("a"), named("b")
	from.Primaries, to.Primaries = plainPrimaries(), plainPrimaries()
	from.White.X, to.White.X = 0, zero
	from.Transfer, to.Transfer = gamma(3), gamma(3)
	to.Transfer.B, from.Transfer.C = zero, zero
	checkFrame(t, converted(from, to), f, func(p api.Pixel) api.Pixel { return p }, "Convert of zeros of both signs")
	// A white that is red has no way back, but none is needed.
	from.Primaries = with(plainPrimaries(), 3, plainPrimaries().Red)
	to.Primaries = from.Primaries
	checkFrame(t, converted(from, to), f, func(p api.Pixel) api.Pixel { return p }, "Convert of a white that is red")
	to.Transfer = logged(8, 0.5)
	checkFrame(t, converted(from, to), f, wantConvert(from, to), "Convert of a white that is red, by other curves")
}

// badFrames are frames with the errors that they have.
func badFrames() []api.Frame {
	return []api.Frame{
		{},
		{Region: api.Region{W: 257, H: 1}, V: make([]float32, 4*257)},
		{Region: api.Region{W: 256, H: 65}, V: make([]float32, 4*256*65)},
		{Region: api.Region{X: api.MaxPlace, W: 1, H: 1}, V: make([]float32, 4)},
		{Region: api.Region{W: 1, H: 1}, V: make([]float32, 3)},
		{Region: api.Region{W: 1, H: 1}, V: make([]float32, 5)},
		{Region: api.Region{W: 2, H: 1}},
	}
}

func frameErrors() []api.Errno {
	return []api.Errno{api.ErrRange, api.ErrRange, api.ErrLarge, api.ErrPlace, api.ErrForm, api.ErrForm, api.ErrForm}
}

func TestP51ConvertErrors(t *testing.T) {
	m, good := mixer{}, named("good")
	f := m.frame(0, 0, 2, 2)
	for i, b := range badFrames() {
		g, e := colour.Convert(b, api.Space{}, api.Space{})
		refusedFrame(t, g, e, frameErrors()[i], "Convert of a bad frame", i)
	}
	for s, want := range badSpaces() {
		g, e := colour.Convert(f, s, good)
		refusedFrame(t, g, e, want, "Convert from", s)
		g, e = colour.Convert(f, good, s)
		refusedFrame(t, g, e, want, "Convert to", s)
		g, e = colour.Convert(f, s, api.Space{})
		refusedFrame(t, g, e, want, "Convert of two", s)
		g, e = colour.Convert(f, s, s)
		refusedFrame(t, g, e, want, "Convert to the same", s)
	}
	dark, red := good, good
	dark.White = darkSpots()[0]
	g, e := colour.Convert(f, dark, good)
	refusedFrame(t, g, e, api.ErrRange, "Convert from a dark white")
	red.Primaries = with(plainPrimaries(), 3, plainPrimaries().Red)
	g, e = colour.Convert(f, good, red)
	refusedFrame(t, g, e, api.ErrRange, "Convert to a white that is red")
	g, e = colour.Convert(f, red, api.Space{Name: "bad", Primaries: good.Primaries})
	refusedFrame(t, g, e, api.ErrKind, "Convert of two")
}
