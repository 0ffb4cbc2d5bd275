package grade_test

import (
	"math"
	"testing"

	"dyehouse/api"
	"dyehouse/grade"
	"dyehouse/num"
)

func TestP70CheckMixer(t *testing.T) {
	checkError(t, grade.CheckMixer(api.Mixer{}), api.OK, "no mixer")
	for i := range 12 {
		for _, v := range oddities() {
			m, want := api.Mixer{}, api.OK
			if v-v != 0 {
				want = api.ErrForm
			}
			m.Rows[i] = v
			checkError(t, grade.CheckMixer(m), want, m)
		}
	}
}

func TestP70Mixer(t *testing.T) {
	m := mixer{}
	for i := range 20000 {
		w, p := m.rows(), pixel(m.plain)
		switch i % 3 {
		case 0:
			p = pixel(m.wild)
		case 1: // also mixers that CheckMixer refuses
			w.Rows[m.below(12)] = m.wild()
		}
		want := p
		for c := range 3 {
			row := w.Rows[4*c:]
			want[c] = add(add(add(mul(p[0], row[0]), mul(p[1], row[1])), mul(p[2], row[2])), row[3])
		}
		checkPixel(t, grade.Mixer(w, p), want, "Mixer", w, p)
	}
}

func TestP70MixerOrder(t *testing.T) {
	const big = 1 << 30
	for _, c := range []struct {
		row  [4]float32
		want float32
	}{
		{[4]float32{big, 1, -big, 0.5}, 0.5}, {[4]float32{big, -big, 1, 0.5}, 1.5}, {[4]float32{1, big, -big, 0.5}, 0.5}, {[4]float32{1, big, 0, -big}, 0},
		{[4]float32{minusZero(), minusZero(), minusZero(), minusZero()}, minusZero()}, {[4]float32{0, 0, 0, minusZero()}, 0}, {[4]float32{greatest, greatest, -greatest, 0}, infinity()},
	} {
		var m api.Mixer
		for i := range 3 {
			copy(m.Rows[4*i:], c.row[:])
		}
		checkPixel(t, grade.Mixer(m, api.Pixel{1, 1, 1, minusZero()}), api.Pixel{c.want, c.want, c.want, minusZero()}, c.row)
	}
	swap := api.Mixer{Rows: [12]float32{0, 0, 1, 0, 1, 0, 0, 0, 0, 1, 0, 0}}
	checkPixel(t, grade.Mixer(swap, api.Pixel{1, 2, 3, oddNaN()}), api.Pixel{3, 1, 2, oddNaN()}, "colours in turn")
	checkPixel(t, grade.Mixer(swap, api.Pixel{infinity(), 2, 3, 4}), api.Pixel{oddNaN(), infinity(), oddNaN(), 4}, "an infinity times 0")
}

func TestP70Contrast(t *testing.T) {
	m := mixer{}
	for range 20000 {
		v, pivot, amount := m.wild(), m.wild(), m.wild()
		check(t, grade.Contrast(v, pivot, amount), add(mul(sub(v, pivot), amount), pivot), "Contrast", v, pivot, amount)
	}
	zero, inf, nan := minusZero(), infinity(), oddNaN()
	for _, c := range []struct{ v, pivot, amount, want float32 }{
		{1, 0.5, 2, 1.5}, {0.25, 0.5, 2, 0}, {0.5, 0.5, 7, 0.5}, {3, 0.5, 0, 0.5}, {3, 0.5, -1, -2}, {zero, 0, 1, 0}, {zero, zero, 1, 0},
		{inf, 1, 0, nan}, {inf, 1, 2, inf}, {-inf, 1, 2, -inf}, {inf, inf, 1, nan}, {nan, 0, 1, nan}, {0, nan, 1, nan}, {0, 0, nan, nan}, {greatest, -greatest, 0.5, inf}, {-greatest, greatest, 1, -inf},
	} {
		check(t, grade.Contrast(c.v, c.pivot, c.amount), c.want, "Contrast", c)
	}
}

func TestP70Printer(t *testing.T) {
	m := mixer{}
	for n := range 51 {
		gain := num.Exp2(div(float32(n-25), 12))
		points := [3]int{n, 50 - n, (n + 7) % 51}
		for range 100 {
			p := pixel(m.wild)
			want := api.Pixel{mul(p[0], gain), mul(p[1], num.Exp2(div(float32(25-n), 12))), mul(p[2], num.Exp2(div(float32((n+7)%51-25), 12))), p[3]}
			got, e := grade.Printer(points, p)
			checkPixel(t, got, want, "Printer", points, p)
			checkError(t, e, api.OK, "Printer", points)
		}
	}
	p := api.Pixel{minusZero(), 3, -greatest, oddNaN()}
	got, e := grade.Printer([3]int{25, 25, 25}, p)
	checkPixel(t, got, p, "no printer points")
	checkError(t, e, api.OK, "no printer points")
	got, _ = grade.Printer([3]int{1, 13, 49}, api.Pixel{1, 1, 1, 1})
	checkPixel(t, got, api.Pixel{0.25, 0.5, 4, 1}, "whole stops")
	got, _ = grade.Printer([3]int{0, 50, 25}, api.Pixel{1, greatest, infinity(), 1})
	checkPixel(t, got, api.Pixel{0.23596859, infinity(), infinity(), 1}, "the least and the most")
	for i := range 3 {
		for _, n := range []int{-1, 51, math.MinInt, math.MaxInt, 1 << 32} {
			points := [3]int{25, 25, 25}
			points[i] = n
			got, e := grade.Printer(points, p)
			refused(t, got, e, api.ErrRange, "Printer", points)
		}
	}
}
