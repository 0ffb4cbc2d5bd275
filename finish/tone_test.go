package finish_test

import (
	"math"
	"testing"

	"dyehouse/api"
	"dyehouse/finish"
	"dyehouse/num"
)

// badTone is a tone curve with the error that it has.
type badTone struct {
	tone  api.Tone
	error api.Errno
}

// badTones are tone curves of each error of CheckTone.
func badTones() []badTone {
	var l []badTone
	for _, kind := range append(badInts(), 0, -1, 4) {
		for _, v := range []float32{0, 1, oddNaN(), 2000} {
			l = append(l, badTone{api.Tone{Kind: kind, A: v, B: 0}, api.ErrKind}, badTone{api.Tone{Kind: kind, A: 1, B: v}, api.ErrKind})
		}
	}
	for kind := api.ToneWhite; kind <= api.ToneRational; kind++ {
		for _, v := range noNumbers() {
			for _, w := range []float32{0, 1, -1, 2000} {
				l = append(l, badTone{api.Tone{Kind: kind, A: v, B: w}, api.ErrForm}, badTone{api.Tone{Kind: kind, A: w, B: v}, api.ErrForm})
			}
		}
	}
	for _, c := range []struct {
		kind int
		a, b float32
	}{
		{api.ToneWhite, below(0.5), 0}, {api.ToneWhite, above(1000), 0}, {api.ToneWhite, 0, 0}, {api.ToneWhite, -1, 0}, {api.ToneWhite, greatest, 0}, {api.ToneWhite, 1, least}, {api.ToneWhite, 1, -least}, {api.ToneWhite, 1, 2},
		{api.ToneShoulder, -least, 1}, {api.ToneShoulder, -1, 1}, {api.ToneShoulder, 1, 1}, {api.ToneShoulder, above(1), 1}, {api.ToneShoulder, 0, 0}, {api.ToneShoulder, 0, minusZero()}, {api.ToneShoulder, minusZero(), 0}, {api.ToneShoulder, 0, -1}, {api.ToneShoulder, -2, -1},
		{api.ToneShoulder, 0, above(1000)}, {api.ToneShoulder, 999, greatest}, {api.ToneShoulder, 2000, 3000},
		{api.ToneRational, below(0.25), 0}, {api.ToneRational, above(16), 0}, {api.ToneRational, 0, 0}, {api.ToneRational, -1, 0}, {api.ToneRational, 1, -least}, {api.ToneRational, 1, above(1)}, {api.ToneRational, 1, greatest}, {api.ToneRational, greatest, 1},
	} {
		l = append(l, badTone{api.Tone{Kind: c.kind, A: c.a, B: c.b}, api.ErrRange})
	}
	return l
}

func TestP137CheckTone(t *testing.T) {
	for _, c := range []struct {
		kind int
		a, b float32
	}{
		{api.ToneWhite, 0.5, 0}, {api.ToneWhite, 1000, minusZero()}, {api.ToneWhite, 4, 0},
		{api.ToneShoulder, 0, least}, {api.ToneShoulder, minusZero(), 1000}, {api.ToneShoulder, below(1000), 1000}, {api.ToneShoulder, 1, above(1)}, {api.ToneShoulder, 0.5, 1},
		{api.ToneRational, 0.25, 0}, {api.ToneRational, 16, 1}, {api.ToneRational, 1, minusZero()}, {api.ToneRational, 2, 0.5},
	} {
		checkError(t, finish.CheckTone(api.Tone{Kind: c.kind, A: c.a, B: c.b}), api.OK, c)
	}
	for _, c := range badTones() {
		checkError(t, finish.CheckTone(c.tone), c.error, c.tone)
	}
}

// wantTone is what Tone returns, for a curve without errors.
func wantTone(t api.Tone, v float32) float32 {
	if v < 0 {
		return v
	}
	switch t.Kind {
	case api.ToneWhite:
		return div(mul(v, add(1, div(v, mul(t.A, t.A)))), add(1, v))
	case api.ToneShoulder:
		if !(v > t.A) {
			return v
		}
		room := sub(t.B, t.A)
		x := div(sub(v, t.A), room)
		return add(t.A, mul(room, div(x, add(1, x))))
	}
	steep := mul(v, t.A)
	return div(mul(v, add(steep, t.B)), add(mul(v, add(steep, 1)), 0.25))
}

// tone returns a tone curve without errors.
func (m *mixer) tone() api.Tone {
	switch m.below(6) {
	case 0, 1:
		return api.Tone{Kind: api.ToneWhite, A: m.between(0.5, 20)}
	case 2:
		b := m.between(0.5, 2)
		return api.Tone{Kind: api.ToneShoulder, A: m.between(0, b*0.99), B: b}
	case 3:
		b := m.between(1, 1000)
		return api.Tone{Kind: api.ToneShoulder, A: float32(b * m.between(0, 0.99)), B: b}
	case 4:
		return api.Tone{Kind: api.ToneRational, A: m.between(0.25, 16), B: []float32{0, 1, minusZero()}[m.below(3)]}
	}
	return api.Tone{Kind: api.ToneRational, A: m.between(0.25, 16), B: m.share()}
}

func TestP137Tone(t *testing.T) {
	m := mixer{}
	for n := range 200000 {
		tone := m.tone()
		v := []func() float32{m.share, m.plain, m.wild, m.any}[n%4]()
		if n%8 > 5 {
			v = float32(math.Abs(float64(v)))
		}
		got, e := finish.Tone(tone, v)
		checkError(t, e, api.OK, "Tone", tone, v)
		check(t, got, wantTone(tone, v), "Tone", tone, v)
	}
}

func TestP137ToneOfSome(t *testing.T) {
	inf := infinity()
	white, shoulder := api.Tone{Kind: api.ToneWhite, A: 4}, api.Tone{Kind: api.ToneShoulder, A: 0.5, B: 1}
	rational, plain := api.Tone{Kind: api.ToneRational, A: 3, B: 0.5}, api.Tone{Kind: api.ToneRational, A: 1}
	for _, c := range []struct {
		tone    api.Tone
		v, want float32
	}{
		{white, 0, 0}, {white, minusZero(), minusZero()}, {white, 1, 0.53125}, {white, 3, 0.890625}, {white, -1, -1}, {white, -least, -least}, {white, -inf, -inf}, {white, inf, nan()}, {white, oddNaN(), nan()}, {white, greatest, inf},
		{shoulder, 0, 0}, {shoulder, minusZero(), minusZero()}, {shoulder, 0.5, 0.5}, {shoulder, 1, 0.75}, {shoulder, 2, 0.875}, {shoulder, -0.25, -0.25}, {shoulder, -inf, -inf}, {shoulder, inf, nan()}, {shoulder, oddNaN(), nan()}, {shoulder, greatest, nan()}, {shoulder, greatest / 4, 1},
		{api.Tone{Kind: api.ToneShoulder, B: 1}, minusZero(), minusZero()}, {api.Tone{Kind: api.ToneShoulder, A: minusZero(), B: 1}, 0, 0}, {api.Tone{Kind: api.ToneShoulder, B: 1}, 1, 0.5},
		{rational, 0, 0}, {rational, minusZero(), minusZero()}, {rational, 0.5, 1 / 1.5}, {rational, 1, 3.5 / 4.25}, {rational, -2, -2}, {rational, -inf, -inf}, {rational, inf, nan()}, {rational, oddNaN(), nan()}, {rational, greatest, nan()},
		{plain, 0, 0}, {plain, minusZero(), minusZero()}, {plain, 1, 1 / 2.25}, {api.Tone{Kind: api.ToneRational, A: 1, B: minusZero()}, minusZero(), 0},
	} {
		got, e := finish.Tone(c.tone, c.v)
		checkError(t, e, api.OK, "Tone", c)
		check(t, got, c.want, "Tone", c)
	}
	for _, c := range badTones() {
		for _, v := range []float32{-1, 0.5, oddNaN()} {
			got, e := finish.Tone(c.tone, v)
			refused(t, got, e, c.error, "Tone", c.tone, v)
		}
	}
}

func TestP137Toned(t *testing.T) {
	m := mixer{}
	for range 400 {
		f, tone := frameOf(m.region(), m.wild), m.tone()
		got, e := finish.Toned(f, tone)
		checkFrame(t, got, e, f.Region, pixelsOf(f.Region, func(x, y int) api.Pixel {
			return colouredBy(pixelAt(f, x, y), func(_ int, v float32) float32 { return wantTone(tone, v) })
		}), "Toned", tone)
	}
	for _, c := range badFrames() {
		for _, tone := range []api.Tone{{Kind: api.ToneWhite, A: 1}, {}, {Kind: api.ToneWhite}} {
			got, e := finish.Toned(c.frame, tone)
			refusedFrame(t, got, e, c.error, "Toned", c.frame.Region, tone)
		}
	}
	for _, c := range badTones() {
		got, e := finish.Toned(row(1, 2), c.tone)
		refusedFrame(t, got, e, c.error, "Toned", c.tone)
	}
}

func TestP137Expose(t *testing.T) {
	inf := infinity()
	p := api.Pixel{1, -0.375, 6, oddNaN()}
	for _, c := range []struct {
		stops float32
		want  api.Pixel
	}{
		{0, p}, {minusZero(), p}, {1, api.Pixel{2, -0.75, 12, nan()}}, {-2, api.Pixel{0.25, -0.09375, 1.5, nan()}}, {127, api.Pixel{0x1p127, -0x3p124, inf, nan()}}, {128, api.Pixel{inf, -inf, inf, nan()}},
		{-149, api.Pixel{least, minusZero(), 6 * least, nan()}}, {-200, api.Pixel{0, minusZero(), 0, nan()}}, {inf, api.Pixel{inf, -inf, inf, nan()}}, {-inf, api.Pixel{0, minusZero(), 0, nan()}}, {oddNaN(), api.Pixel{nan(), nan(), nan(), nan()}},
	} {
		checkPixel(t, finish.Expose(p, c.stops), c.want, "Expose", c.stops)
	}
	m := mixer{}
	for range 20000 {
		p, stops := pixelOf(m.wild), m.wild()
		checkPixel(t, finish.Expose(p, stops), colouredBy(p, func(_ int, v float32) float32 { return mul(v, num.Exp2(stops)) }), "Expose", p, stops)
	}
}
