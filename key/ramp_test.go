package key_test

import (
	"testing"

	"dyehouse/api"
	"dyehouse/key"
)

// badRamp is a ramp with the error that it has.
type badRamp struct {
	ramp  api.Ramp
	error api.Errno
}

// badRamps are ramps of each error of CheckRamp.
func badRamps() []badRamp {
	l := []badRamp{
		{api.Ramp{Low: 1}, api.ErrOrder}, {api.Ramp{Low: above(1), High: 1}, api.ErrOrder}, {api.Ramp{Low: least}, api.ErrOrder},
		{api.Ramp{High: -least}, api.ErrOrder}, {api.Ramp{Low: greatest, High: -greatest, Soft: 1}, api.ErrOrder}, {api.Ramp{Low: 1, Soft: -1}, api.ErrOrder},
		{api.Ramp{Soft: -least}, api.ErrRange}, {api.Ramp{Soft: -1}, api.ErrRange}, {api.Ramp{High: 1, Soft: -greatest}, api.ErrRange},
	}
	for _, v := range noNumbers() {
		for _, r := range []api.Ramp{{Low: v}, {High: v}, {Soft: v}, {Low: v, High: v, Soft: v}, {Low: v, Soft: -1}, {High: v, Soft: -1}, {Low: 2, High: 1, Soft: v}} {
			l = append(l, badRamp{r, api.ErrForm})
		}
	}
	return l
}

func TestP106CheckRamp(t *testing.T) {
	for _, r := range []api.Ramp{
		{}, {High: 1}, {Low: 1, High: 1}, {Low: 0, High: minusZero()}, {Low: minusZero(), High: 0}, {Soft: minusZero()}, {Soft: least},
		{Low: -greatest, High: greatest, Soft: greatest}, {Low: greatest, High: greatest}, {Low: -2, High: -1, Soft: 0.5},
	} {
		checkError(t, key.CheckRamp(r), api.OK, r)
	}
	for _, c := range badRamps() {
		checkError(t, key.CheckRamp(c.ramp), c.error, c.ramp)
	}
}

// wantRamp is what Ramp returns, for any ramp.
func wantRamp(r api.Ramp, v float32) float32 {
	if v != v {
		return 0
	}
	less, more := v < r.Low, v > r.High
	if !less && !more {
		return 1
	}
	d := sub(v, r.High)
	if less {
		d = sub(r.Low, v)
	}
	if !(d < r.Soft) {
		return 0
	}
	return wantLeft(div(d, r.Soft))
}

func TestP106Ramp(t *testing.T) {
	half := api.Ramp{Low: 0.25, High: 0.5, Soft: 0.5}
	hard := api.Ramp{Low: -1, High: 1}
	point := api.Ramp{Low: 2, High: 2, Soft: 4}
	wide := api.Ramp{Low: -greatest, High: greatest, Soft: greatest}
	for _, c := range []struct {
		ramp    api.Ramp
		v, want float32
	}{
		{half, 0.25, 1}, {half, 0.5, 1}, {half, 0.3, 1}, {half, 0.75, 0.5}, {half, 0, 0.5}, {half, minusZero(), 0.5}, {half, 0.125, 0.84375}, {half, 0.875, 0.15625},
		{half, 1, 0}, {half, -0.25, 0}, {half, 2, 0}, {half, -9, 0}, {half, below(1), 0}, {half, above(0.5), 1}, {half, below(0.25), 1},
		{half, infinity(), 0}, {half, -infinity(), 0}, {half, oddNaN(), 0}, {half, single(nanBits), 0}, {half, greatest, 0},
		{hard, -1, 1}, {hard, 1, 1}, {hard, 0, 1}, {hard, above(1), 0}, {hard, below(-1), 0}, {hard, infinity(), 0}, {hard, oddNaN(), 0},
		{point, 2, 1}, {point, 4, 0.5}, {point, 0, 0.5}, {point, 3, 0.84375}, {point, 6, 0}, {point, -2, 0},
		{wide, greatest, 1}, {wide, -greatest, 1}, {wide, infinity(), 0}, {wide, -infinity(), 0}, {wide, 0, 1},
		{api.Ramp{Soft: 1}, minusZero(), 1}, {api.Ramp{Low: minusZero(), High: minusZero()}, 0, 1}, {api.Ramp{Soft: least}, least, 0}, {api.Ramp{Soft: 2 * least}, least, 0.5},
		{api.Ramp{Soft: minusZero()}, least, 0}, {api.Ramp{Low: greatest, High: greatest, Soft: greatest}, -greatest, 0}, {api.Ramp{Low: greatest, High: greatest, Soft: greatest}, greatest / 2, 0.5},
	} {
		check(t, key.Ramp(c.ramp, c.v), c.want, "Ramp", c.ramp, c.v)
	}
}

func TestP106RampOfAll(t *testing.T) {
	m := mixer{}
	for i := range 40000 {
		r := api.Ramp{Low: m.plain(), Soft: m.between(0, 8)}
		r.High = r.Low + m.between(0, 4)
		if i%4 == 0 {
			r = api.Ramp{Low: m.wild(), High: m.wild(), Soft: m.wild()} // also ramps with errors
		}
		v := m.wild()
		if i%3 == 0 {
			v = []float32{r.Low - r.Soft, r.High + r.Soft, below(r.Low), above(r.High), r.Low - r.Soft/2}[m.below(5)]
		}
		check(t, key.Ramp(r, v), wantRamp(r, v), "Ramp", r, v)
	}
}
