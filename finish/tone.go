package finish

import (
	"dyehouse/api"
	"dyehouse/frame"
	"dyehouse/num"
)

// CheckTone is described in doc/07-finish.md.
func CheckTone(t api.Tone) api.Errno {
	if t.Kind < api.ToneWhite || t.Kind > api.ToneRational {
		return api.ErrKind
	}
	if !areNumbers(t.A, t.B) {
		return api.ErrForm
	}
	var good bool
	switch t.Kind {
	case api.ToneWhite:
		good = isWithin(t.A, 0.5, 1000) && t.B == 0
	case api.ToneShoulder:
		good = t.A >= 0 && t.A < t.B && t.B <= 1000
	case api.ToneRational:
		good = isWithin(t.A, 0.25, 16) && isWithin(t.B, 0, 1)
	}
	if !good {
		return api.ErrRange
	}
	return api.OK
}

// Tone is described in doc/07-finish.md.
func Tone(t api.Tone, v float32) (float32, api.Errno) {
	if e := CheckTone(t); e != api.OK {
		return 0, e
	}
	return num.Clean(toned(t, v)), api.OK
}

// toned is what a tone curve without errors makes of a value. The conversions
// keep products from being fused with sums.
func toned(t api.Tone, v float32) float32 {
	if v < 0 {
		return v
	}
	switch t.Kind {
	case api.ToneWhite:
		return v * (1 + v/(t.A*t.A)) / (1 + v)
	case api.ToneShoulder:
		return shouldered(t.A, t.B, v)
	}
	return v * (float32(v*t.A) + t.B) / (float32(v*(float32(v*t.A)+1)) + 0.25)
}

// shouldered is v up to a, and comes nearer and nearer to b beyond.
func shouldered(a, b, v float32) float32 {
	if v > a {
		x := (v - a) / (b - a)
		return a + float32((b-a)*(x/(1+x)))
	}
	return v
}

// Toned is described in doc/07-finish.md.
func Toned(f api.Frame, t api.Tone) (api.Frame, api.Errno) {
	if e := frame.Check(f); e != api.OK {
		return api.Frame{}, e
	}
	if e := CheckTone(t); e != api.OK {
		return api.Frame{}, e
	}
	return eachPixel(f, func(_, _ int, p api.Pixel) api.Pixel {
		return coloured(p, func(_ int, v float32) float32 { return toned(t, v) })
	}), api.OK
}

// Expose is described in doc/07-finish.md.
func Expose(p api.Pixel, stops float32) api.Pixel {
	light := num.Exp2(stops)
	return coloured(p, func(_ int, v float32) float32 { return v * light })
}
