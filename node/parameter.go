package node

import (
	"dyehouse/api"
	"dyehouse/finish"
	"dyehouse/key"
)

// checkParameters is the error of the parameters of a node that has as many as it
// needs.
func (o operation) checkParameters(n api.Node) api.Errno {
	if !o.loose && !areNumbers(n.Reals...) {
		return api.ErrForm
	}
	for i, b := range o.ints {
		if !b.have(n.Ints[i]) {
			return api.ErrRange
		}
	}
	if o.wrong == nil {
		return api.OK
	}
	return o.wrong(n)
}

func toneOf(n api.Node) api.Tone {
	return api.Tone{Kind: n.Ints[0], A: n.Reals[0], B: n.Reals[1]}
}

func grainOf(n api.Node) api.Grain {
	return api.Grain{Seed: uint32(n.Ints[0]), Size: n.Ints[1], Mono: n.Ints[2] == 1, Strength: n.Reals[0], Fall: n.Reals[1]}
}

func vignetteOf(n api.Node) api.Vignette {
	return api.Vignette{X: n.Reals[0], Y: n.Reals[1], Inner: n.Reals[2], Outer: n.Reals[3], Dark: n.Reals[4]}
}

func rampOf(l []float32) api.Ramp { return api.Ramp{Low: l[0], High: l[1], Soft: l[2]} }

func hueOf(n api.Node) api.HueKey {
	l := n.Reals
	return api.HueKey{Centre: l[0], Width: l[1], Soft: l[2], Saturation: rampOf(l[3:6]), Value: rampOf(l[6:9])}
}

// onePixel is a frame for functions that tell errors of parameters only of frames.
func onePixel() api.Frame {
	return api.Frame{Region: api.Region{W: 1, H: 1}, V: make([]float32, channels)}
}

func wrongTone(n api.Node) api.Errno { return finish.CheckTone(toneOf(n)) }

func wrongCompress(n api.Node) api.Errno {
	_, e := finish.Compress(api.Pixel{}, n.Reals[0])
	return e
}

func wrongGrain(n api.Node) api.Errno { return finish.CheckGrain(grainOf(n)) }

func wrongVignette(n api.Node) api.Errno {
	_, e := finish.Vignette(onePixel(), vignetteOf(n))
	return e
}

func wrongSharpen(n api.Node) api.Errno {
	_, e := finish.Sharpen(onePixel(), n.Reals[0], n.Reals[1])
	return e
}

func wrongRamp(n api.Node) api.Errno { return key.CheckRamp(rampOf(n.Reals)) }

func wrongHue(n api.Node) api.Errno { return key.CheckHue(hueOf(n)) }
