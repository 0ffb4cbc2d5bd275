package finish_test

import (
	"math"
	"testing"

	"dyehouse/api"
	"dyehouse/finish"
	"dyehouse/frame"
)

func TestP145LevelOfValue(t *testing.T) {
	for depth := 1; depth <= 16; depth++ {
		for n := 0; n < 1<<depth; n++ {
			v, e := finish.Value(n, depth)
			checkError(t, e, api.OK, "Value", n, depth)
			if back, e := finish.Level(v, 0, depth); back != n || e != api.OK {
				t.Errorf("Level of Value of %d, depth %d: %d, error %d", n, depth, back, e)
			}
		}
	}
}

func TestP145FrameOfLevels(t *testing.T) {
	m := mixer{}
	for range 300 {
		r, depth := m.region(), m.from(1, 16)
		l := m.levels(4*r.W*r.H, depth)
		f, e := finish.Frame(r, l, depth)
		checkError(t, e, api.OK, "Frame", r, depth)
		back, e := finish.Levels(f, api.DitherNone, m.next(), depth)
		checkLevels(t, back, e, l, "Levels of Frame", r, depth)
		again, e := finish.Frame(r, back, depth)
		checkFrame(t, again, e, r, f.V, "Frame of Levels of Frame", r, depth)
		diffused, e := finish.Diffuse(f, depth)
		checkLevels(t, diffused, e, l, "Diffuse of Frame", r, depth)
	}
}

func TestP145UnpackOfPack(t *testing.T) {
	m := mixer{}
	for many := range 200 {
		for _, depth := range packedDepths() {
			l := m.levels(many, depth)
			text, e := finish.Pack(l, depth)
			checkError(t, e, api.OK, "Pack", many, depth)
			back, e := finish.Unpack(text, many, depth)
			checkLevels(t, back, e, l, "Unpack of Pack", many, depth)
		}
	}
}

func TestP145ReadPictureOfPicture(t *testing.T) {
	m := mixer{}
	for n := range 200 {
		f := frameOf(m.region(), m.rare)
		how, seed := n%3, m.next()
		text, e := finish.Picture(f, how, seed)
		checkError(t, e, api.OK, "Picture", f.Region)
		l, _ := finish.Levels(f, how, seed, 8)
		for i := 3; i < len(l); i += 4 {
			l[i] = 255
		}
		want, _ := finish.Frame(f.Region, l, 8)
		got, e := finish.ReadPicture(text)
		checkFrame(t, got, e, api.Region{W: f.W, H: f.H}, want.V, "ReadPicture of Picture", f.Region)
		again, e := finish.Picture(got, api.DitherNone, 0)
		if again != text || e != api.OK {
			t.Error("Picture of ReadPicture is another text:", f.Region)
		}
	}
}

// cut is a part of f; inner is its part that is not at an edge, unless that is an
// edge of f as well.
func (m *mixer) cut(f api.Frame) (part, inner api.Region) {
	part = api.Region{W: m.from(1, f.W), H: m.from(1, f.H)}
	part.X, part.Y = f.X+m.below(f.W-part.W+1), f.Y+m.below(f.H-part.H+1)
	inner = part
	if part.X > f.X {
		inner.X, inner.W = inner.X+1, inner.W-1
	}
	if part.Y > f.Y {
		inner.Y, inner.H = inner.Y+1, inner.H-1
	}
	if part.X+part.W < f.X+f.W {
		inner.W--
	}
	if part.Y+part.H < f.Y+f.H {
		inner.H--
	}
	return part, inner
}

func TestP145OfParts(t *testing.T) {
	m := mixer{}
	for range 400 {
		f, g := frameOf(m.region(), m.rare), m.grain()
		part, inner := m.cut(f)
		cut, e := frame.Cut(f, part)
		checkError(t, e, api.OK, "Cut", part)
		whole, e := finish.Grain(f, g, 5)
		checkError(t, e, api.OK, "Grain")
		want, _ := frame.Cut(whole, part)
		got, e := finish.Grain(cut, g, 5)
		checkFrame(t, got, e, part, want.V, "Grain of a part", f.Region, part)
		if inner.W < 1 || inner.H < 1 {
			continue
		}
		whole, e = finish.Sharpen(f, 2, 0.125)
		checkError(t, e, api.OK, "Sharpen")
		want, _ = frame.Cut(whole, inner)
		got, e = finish.Sharpen(cut, 2, 0.125)
		checkError(t, e, api.OK, "Sharpen")
		got, e = frame.Cut(got, inner)
		checkFrame(t, got, e, inner, want.V, "Sharpen of a part", f.Region, part)
	}
}

// moderate returns a number of magnitude up to 2^120.
func (m *mixer) moderate() float32 {
	switch m.below(8) {
	case 0:
		return 0x1p120
	case 1:
		return -0x1p120
	case 2:
		return float32(m.below(3)-1) * least
	}
	return single(m.next()&0x80000000 | m.next()%(247<<23))
}

func TestP145SharpenByNothing(t *testing.T) {
	m := mixer{}
	for range 400 {
		f := frameOf(m.region(), m.moderate)
		for _, amount := range []float32{0, minusZero()} {
			got, e := finish.Sharpen(f, amount, 0)
			checkError(t, e, api.OK, "Sharpen")
			for i, v := range got.V {
				if v != f.V[i] || v != 0 && math.Float32bits(v) != math.Float32bits(f.V[i]) {
					t.Error("Sharpen with the amount 0 changed", f.V[i], "to", v)
				}
			}
		}
	}
}

// Levels are packed and unpacked; of shares their frame is a step away at most, and
// the same levels come of it.
func TestP285LevelsOfShares(t *testing.T) {
	m := mixer{}
	for n := range 900 {
		f, how, seed := frameOf(m.region(), m.share), n%3, m.next()
		f.V[m.below(len(f.V))] = float32(m.below(2))
		depth := packedDepths()[n/3%3]
		l, e := finish.Levels(f, how, seed, depth)
		checkError(t, e, api.OK, "Levels", depth)
		text, e := finish.Pack(l, depth)
		checkError(t, e, api.OK, "Pack", depth)
		back, e := finish.Unpack(text, len(l), depth)
		checkLevels(t, back, e, l, "Unpack", depth)
		g, e := finish.Frame(f.Region, back, depth)
		checkError(t, e, api.OK, "Frame", depth)
		step := 1 / float64(int(1)<<depth-1)
		if how == api.DitherNone {
			step /= 2
		}
		for i, v := range g.V {
			if d := math.Abs(float64(v) - float64(f.V[i])); d > step+0x1p-22 {
				t.Error("a share is off by", d, "with depth", depth, "dithered by", how)
			}
		}
		again, e := finish.Levels(g, api.DitherNone, 0, depth)
		checkLevels(t, again, e, l, "Levels of their frame", depth)
	}
}
