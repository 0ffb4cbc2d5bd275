package key_test

import (
	"testing"

	"dyehouse/api"
	"dyehouse/colour"
	"dyehouse/key"
)

// allOf is a ramp in which all shares are.
func allOf() api.Ramp { return api.Ramp{High: 1} }

// hueKey is a key with ramps in which all is.
func hueKey(centre, width, soft float32) api.HueKey {
	return api.HueKey{Centre: centre, Width: width, Soft: soft, Saturation: allOf(), Value: api.Ramp{High: greatest}}
}

// badHue is a key with the error that it has.
type badHue struct {
	key   api.HueKey
	error api.Errno
}

// badHues are keys of each error of CheckHue.
func badHues() []badHue {
	var l []badHue
	worst := badRamp{api.Ramp{Low: oddNaN()}, api.ErrForm}
	put := func(k api.HueKey, e api.Errno) {
		l = append(l, badHue{k, e})
		k.Saturation, k.Value = worst.ramp, api.Ramp{Soft: -1}
		l = append(l, badHue{k, e})
	}
	for _, v := range noNumbers() {
		put(hueKey(v, 0, 0), api.ErrForm)
		put(hueKey(0, v, 0), api.ErrForm)
		put(hueKey(0, 0, v), api.ErrForm)
		put(hueKey(2, v, -1), api.ErrForm)
		put(hueKey(-1, 2, v), api.ErrForm)
	}
	for _, v := range []float32{1, above(1), -least, -1, 2, greatest, -greatest} {
		put(hueKey(v, 0, 0), api.ErrRange)
	}
	for _, v := range []float32{above(0.5), 1, -least, -0.5, greatest, -greatest} {
		put(hueKey(0, v, 0), api.ErrRange)
		put(hueKey(0, 0, v), api.ErrRange)
	}
	for _, r := range badRamps() {
		k := hueKey(0, 0, 0)
		k.Value = r.ramp
		l = append(l, badHue{k, r.error})
		k.Saturation = api.Ramp{Low: 1}
		l = append(l, badHue{k, api.ErrOrder})
		k.Saturation, k.Value = r.ramp, api.Ramp{Soft: -1}
		l = append(l, badHue{k, r.error})
	}
	return l
}

func TestP107CheckHue(t *testing.T) {
	for _, k := range []api.HueKey{
		{}, hueKey(0, 0, 0), hueKey(below(1), 0.5, 0.5), hueKey(minusZero(), minusZero(), minusZero()), hueKey(least, least, least), hueKey(0.5, 0.25, 0.125),
	} {
		checkError(t, key.CheckHue(k), api.OK, k)
	}
	for _, c := range badHues() {
		checkError(t, key.CheckHue(c.key), c.error, c.key)
	}
}

// wantHue is what Hue returns, for any key.
func wantHue(k api.HueKey, p api.Pixel) float32 {
	h, s, v := colour.ToHSV(p)
	d := colour.HueApart(h, k.Centre)
	a := float32(0)
	beyond := sub(d, k.Width)
	switch {
	case d != d:
	case !(d > k.Width):
		a = 1
	case beyond < k.Soft:
		a = wantLeft(div(beyond, k.Soft))
	}
	product := mul(mul(a, wantRamp(k.Saturation, s)), wantRamp(k.Value, v))
	if product != product {
		return 0
	}
	return product
}

func TestP107Hue(t *testing.T) {
	red, green, grey := api.Pixel{1, 0, 0, 1}, api.Pixel{0, 1, 0, 1}, api.Pixel{0.5, 0.5, 0.5, 1}
	orange := api.Pixel{1, 0.5, 0, 1}
	dark := hueKey(0, 0.5, 0)
	dark.Value = api.Ramp{High: 0.25, Soft: 0.5}
	pale := hueKey(0, 0.5, 0)
	pale.Saturation = api.Ramp{High: 0.25, Soft: 0.5}
	both := pale
	both.Value = dark.Value
	bad := hueKey(oddNaN(), 0.5, 0)
	for _, c := range []struct {
		key   api.HueKey
		pixel api.Pixel
		want  float32
	}{
		{hueKey(0, 0, 0), red, 1}, {hueKey(0, 0, 0), grey, 1}, {hueKey(0, 0.125, 0), green, 0}, {hueKey(0, 0.125, 0.125), green, 0},
		{hueKey(0.5, 0.5, 0), red, 1}, {hueKey(0.5, 0.25, 0.5), red, 0.5}, {hueKey(0.5, below(0.5), 0), red, 0}, {hueKey(0.5, 0, 0.5), red, 0},
		{hueKey(0.75, 0.125, 0.25), red, 0.5}, {hueKey(0.25, 0.125, 0.25), red, 0.5}, {hueKey(0.25, 0.1875, 0.25), red, 0.84375},
		{hueKey(below(1), 0.125, 0), red, 1}, {hueKey(0, 0.09, 0), orange, 1}, {hueKey(0, 0.08, 0), orange, 0},
		{dark, red, 0}, {dark, api.Pixel{0.5, 0, 0, 1}, 0.5}, {dark, api.Pixel{0.25, 0, 0, 1}, 1}, {dark, api.Pixel{0.5, 0, 0, oddNaN()}, 0.5},
		{pale, red, 0}, {pale, api.Pixel{1, 0.5, 0.5, 1}, 0.5}, {pale, grey, 1}, {both, api.Pixel{0.5, 0.25, 0.25, 1}, 0.25},
		{dark, api.Pixel{}, 1}, {dark, api.Pixel{-0.25, -0.25, -0.25, 1}, 0.5},
		{dark, api.Pixel{oddNaN(), 0, 0, 1}, 0}, {dark, api.Pixel{0, oddNaN(), 0, 1}, 0}, {dark, api.Pixel{0, 0, oddNaN(), 1}, 0},
		{hueKey(0, 0.5, 0.5), api.Pixel{infinity(), 0, 0, 1}, 0}, {hueKey(0, 0.5, 0.5), api.Pixel{infinity(), infinity(), infinity(), 1}, 0}, {hueKey(0, 0.5, 0.5), api.Pixel{1, -infinity(), 0, 1}, 0},
		{bad, red, 0}, {hueKey(infinity(), 0.5, 0), red, 0}, {hueKey(0, oddNaN(), 0), green, 1}, {hueKey(0, 0, oddNaN()), green, 0}, {hueKey(0, 0, infinity()), green, 1},
	} {
		check(t, key.Hue(c.key, c.pixel), c.want, "Hue", c.key, c.pixel)
	}
}

// key returns a key, sometimes one with errors.
func (m *mixer) key() api.HueKey {
	ramp := func() api.Ramp {
		low := m.between(-0.5, 1)
		return api.Ramp{Low: low, High: low + m.between(0, 0.5), Soft: m.share()}
	}
	k := api.HueKey{Centre: m.between(0, 0.999), Width: m.between(0, 0.3), Soft: m.between(0, 0.5), Saturation: ramp(), Value: ramp()}
	switch m.below(8) {
	case 0:
		k = api.HueKey{Centre: m.wild(), Width: m.wild(), Soft: m.wild(), Saturation: ramp(), Value: ramp()}
	case 1:
		k.Saturation = api.Ramp{Low: m.wild(), High: m.wild(), Soft: m.wild()}
	case 2:
		k.Value = api.Ramp{Low: m.wild(), High: m.wild(), Soft: m.wild()}
	}
	return k
}

func TestP107HueOfAll(t *testing.T) {
	m := mixer{}
	some := 0
	for i := range 40000 {
		k, p := m.key(), pixelOf(m.share)
		if i%8 == 0 {
			p = pixelOf(m.wild)
		}
		want := wantHue(k, p)
		if want > 0 && want < 1 {
			some++
		}
		check(t, key.Hue(k, p), want, "Hue", k, p)
	}
	if some < 1000 {
		t.Error("just", some, "pixels between 0 and 1")
	}
}

// regions are where keys are tried.
func regions() []api.Region {
	return []api.Region{{W: 1, H: 1}, {X: -3, Y: 5, W: 4, H: 3}, {X: -far, Y: far - 5, W: 7, H: 5}, {X: far - 256, W: 256, H: 2}, {W: 128, H: 128}}
}

// wantMatte is what value says of each pixel of f.
func wantMatte(f api.Frame, value func(p api.Pixel) float32) []float32 {
	var l []float32
	for y := f.Y; y < f.Y+f.H; y++ {
		for x := f.X; x < f.X+f.W; x++ {
			l = append(l, value(pixelAt(f, x, y)))
		}
	}
	return l
}

func TestP107HueMatte(t *testing.T) {
	m := mixer{}
	k := api.HueKey{Centre: 0.9, Width: 0.1, Soft: 0.4, Saturation: api.Ramp{Low: 0.25, High: 0.75, Soft: 0.5}, Value: api.Ramp{Low: 0.125, High: 2, Soft: 1}}
	for _, r := range regions() {
		for _, value := range []func() float32{m.share, m.wild, m.any} {
			f := frameOf(r, value)
			got, e := key.HueMatte(k, f)
			checkMatte(t, got, e, r, wantMatte(f, func(p api.Pixel) float32 { return wantHue(k, p) }), "HueMatte", r)
		}
	}
	good := frameOf(api.Region{W: 2, H: 1}, m.share)
	for _, c := range badHues() {
		for _, f := range []api.Frame{good, {}} {
			got, e := key.HueMatte(c.key, f)
			refusedMatte(t, got, e, c.error, "HueMatte", c.key)
		}
	}
	for _, c := range badFrames() {
		got, e := key.HueMatte(k, c.frame)
		refusedMatte(t, got, e, c.error, "HueMatte", c.frame.Region)
	}
}

func TestP107LumaMatte(t *testing.T) {
	m := mixer{}
	r := api.Ramp{Low: 0.25, High: 0.5, Soft: 0.5}
	for _, w := range [][3]float32{{0.25, 0.5, 0.25}, {1, 0, 0}, {-1, 3, minusZero()}, {greatest, -greatest, 1}} {
		for _, region := range regions() {
			for _, value := range []func() float32{m.share, m.wild, m.any} {
				f := frameOf(region, value)
				got, e := key.LumaMatte(r, w, f)
				checkMatte(t, got, e, region, wantMatte(f, func(p api.Pixel) float32 {
					return wantRamp(r, add(add(mul(w[0], p[0]), mul(w[1], p[1])), mul(w[2], p[2])))
				}), "LumaMatte", w, region)
			}
		}
	}
	f := api.Frame{Region: api.Region{W: 3, H: 1}, V: []float32{1, 0, 0, 1, 0, 1, 0, 1, 0, 0, 1, oddNaN()}}
	got, e := key.LumaMatte(r, [3]float32{0.5, 0.75, 1}, f)
	checkMatte(t, got, e, f.Region, []float32{1, 0.5, 0}, "LumaMatte")
	w := [3]float32{1, 1, 1}
	for _, c := range badRamps() {
		got, e := key.LumaMatte(c.ramp, [3]float32{oddNaN(), 0, 0}, api.Frame{})
		refusedMatte(t, got, e, c.error, "LumaMatte", c.ramp)
		got, e = key.LumaMatte(c.ramp, w, f)
		refusedMatte(t, got, e, c.error, "LumaMatte", c.ramp)
	}
	for _, v := range noNumbers() {
		for i := range w {
			bad := w
			bad[i] = v
			for _, g := range []api.Frame{f, {}} {
				got, e := key.LumaMatte(r, bad, g)
				refusedMatte(t, got, e, api.ErrForm, "LumaMatte", bad)
			}
		}
	}
	for _, c := range badFrames() {
		got, e := key.LumaMatte(r, w, c.frame)
		refusedMatte(t, got, e, c.error, "LumaMatte", c.frame.Region)
	}
}

// wantNear is what NearMatte has for a pixel.
func wantNear(p api.Pixel, inner, outer float32, q api.Pixel) float32 {
	square := func(i int) float32 {
		d := sub(p[i], q[i])
		return mul(d, d)
	}
	length := root(add(add(square(0), square(1)), square(2)))
	switch {
	case length != length || length > inner && !(length < outer):
		return 0
	case !(length > inner):
		return 1
	}
	return wantLeft(div(sub(length, inner), sub(outer, inner)))
}

func TestP107NearMatte(t *testing.T) {
	m := mixer{}
	for i := range 200 {
		for _, r := range regions()[:3] {
			p, inner := pixelOf(m.share), m.between(-0.5, 0.5)
			outer := inner + m.between(0.01, 1.5)
			f := frameOf(r, m.share)
			if i%4 == 0 {
				f = frameOf(r, m.wild)
			}
			got, e := key.NearMatte(p, inner, outer, f)
			checkMatte(t, got, e, r, wantMatte(f, func(q api.Pixel) float32 { return wantNear(p, inner, outer, q) }), "NearMatte", p, inner, outer)
		}
	}
	for _, c := range []struct {
		pixel              api.Pixel
		inner, outer, want float32
	}{
		{api.Pixel{2, 3, 6, 9}, 7, 8, 1}, {api.Pixel{2, 3, 6, 9}, below(7), 8, 1}, {api.Pixel{2, 3, 6, 9}, 6, 8, 0.5}, {api.Pixel{2, 3, 6, 9}, 6, 7, 0}, {api.Pixel{2, 3, 6, 9}, 6, above(7), 0},
		{api.Pixel{2, 3, 6, 9}, 5, 13, 0.84375}, {api.Pixel{2, 3, 6, 9}, 1, 2, 0}, {api.Pixel{-2, -3, -6, oddNaN()}, -7, 21, 0.5}, {api.Pixel{}, -1, 1, 0.5}, {api.Pixel{}, 0, 1, 1}, {api.Pixel{}, minusZero(), 1, 1}, {api.Pixel{}, -2, -1, 0}, {api.Pixel{}, -1, minusZero(), 0},
		{api.Pixel{oddNaN(), 0, 0, 0}, 1, 2, 0}, {api.Pixel{0, single(nanBits), 0, 0}, 1, 2, 0}, {api.Pixel{0, 0, oddNaN(), 0}, greatest / 2, greatest, 0},
		{api.Pixel{infinity(), 0, 0, 0}, 1, 2, 0}, {api.Pixel{0, -infinity(), infinity(), 0}, 1, greatest, 0}, {api.Pixel{greatest, 0, 0, 0}, 1, greatest, 0},
		{api.Pixel{0x1p63, 0, 0, 0}, 0, greatest, 1}, {api.Pixel{0x1p63, 0, 0, 0}, -greatest, greatest, 1}, {api.Pixel{0x1p63, 0, 0, 0}, -greatest, 0x1p63, 0}, {api.Pixel{0x1p62, 0, 0, 0}, -greatest, 0x1p63, 0},
		{api.Pixel{0x1p-75, 0, 0, 0}, 0, 1, 1}, {api.Pixel{0x1p-74, 0, 0, 0}, 0, 0x1p-73, 0.5},
	} {
		f := api.Frame{Region: api.Region{W: 1, H: 1}, V: c.pixel[:]}
		got, e := key.NearMatte(api.Pixel{}, c.inner, c.outer, f)
		checkMatte(t, got, e, f.Region, []float32{c.want}, "NearMatte", c)
	}
}

func TestP107NearMatteErrors(t *testing.T) {
	m := mixer{}
	good := frameOf(api.Region{W: 2, H: 2}, m.share)
	for _, v := range noNumbers() {
		for _, f := range []api.Frame{good, {}} {
			for i := range 3 {
				p := api.Pixel{}
				p[i] = v
				got, e := key.NearMatte(p, 1, 0, f)
				refusedMatte(t, got, e, api.ErrForm, "NearMatte", p)
			}
			got, e := key.NearMatte(api.Pixel{}, v, -1, f)
			refusedMatte(t, got, e, api.ErrForm, "NearMatte, inner", v)
			got, e = key.NearMatte(api.Pixel{}, 1, v, f)
			refusedMatte(t, got, e, api.ErrForm, "NearMatte, outer", v)
		}
		got, e := key.NearMatte(api.Pixel{0, 0, 0, v}, 0, 1, good) // alpha may be any
		if e != api.OK || len(got.V) != 4 {
			t.Error("NearMatte with alpha", v, got, e)
		}
	}
	for _, c := range [][2]float32{{0, 0}, {0, minusZero()}, {minusZero(), 0}, {1, 1}, {above(1), 1}, {1, -1}, {greatest, -greatest}, {least, 0}} {
		for _, f := range []api.Frame{good, {}} {
			got, e := key.NearMatte(api.Pixel{}, c[0], c[1], f)
			refusedMatte(t, got, e, api.ErrOrder, "NearMatte", c)
		}
	}
	for _, c := range badFrames() {
		got, e := key.NearMatte(api.Pixel{}, 0, least, c.frame)
		refusedMatte(t, got, e, c.error, "NearMatte", c.frame.Region)
	}
}
