package finish_test

import (
	"testing"

	"dyehouse/api"
	"dyehouse/finish"
)

// wantDiffused is what Diffuse returns, for a depth without errors.
func wantDiffused(f api.Frame, depth int) []int {
	type place struct{ x, y, channel int }
	got := map[place]float32{}
	l := make([]int, 0, len(f.V))
	for i, c := range f.V {
		x, y, channel := i/4%f.W, i/4/f.W, i%4
		if channel == 3 {
			l = append(l, wantLevel(c, 0, depth))
			continue
		}
		v := add(c, got[place{x, y, channel}])
		n := wantLevel(v, 0, depth)
		l = append(l, n)
		e := sub(v, div(float32(n), float32(int(1)<<depth-1)))
		if !isNumber(e) {
			e = 0
		}
		for _, to := range []struct {
			x, y  int
			share float32
		}{{x + 1, y, 7}, {x - 1, y + 1, 3}, {x, y + 1, 5}, {x + 1, y + 1, 1}} {
			if to.x >= 0 && to.x < f.W {
				at := place{to.x, to.y, channel}
				got[at] = add(got[at], div(mul(e, to.share), 16))
			}
		}
	}
	return l
}

func TestP142Diffuse(t *testing.T) {
	m := mixer{}
	for n := range 1500 {
		f, depth := frameOf(m.region(), []func() float32{m.share, m.rare, m.wild}[n%3]), m.from(1, 16)
		if n%2 == 0 {
			depth = m.from(1, 4)
		}
		got, e := finish.Diffuse(f, depth)
		checkLevels(t, got, e, wantDiffused(f, depth), "Diffuse", f, depth)
	}
	for _, r := range []api.Region{{W: 1, H: 256}, {W: 256, H: 1}, {W: 128, H: 128}, {W: 1, H: 1}} {
		f := frameOf(r, m.share)
		got, e := finish.Diffuse(f, 3)
		checkLevels(t, got, e, wantDiffused(f, 3), "Diffuse", r)
	}
}

func TestP142DiffuseOfSome(t *testing.T) {
	inf := infinity()
	for _, c := range []struct {
		values []float32
		want   []int
	}{
		{[]float32{0.5, 0.5, 0.5, 0.5}, []int{0, 1, 0, 1}},
		{[]float32{0.25, 0.4, 0.4, 0.4}, []int{0, 1, 0, 0}},
		{[]float32{1, 0.25, 0, 0.75}, []int{1, 0, 0, 1}},
		// What is beyond a level is lost, too, and goes on.
		{[]float32{2, 0.125, 0, 0}, []int{1, 1, 0, 0}}, {[]float32{-1, 0.9, 0.75, 0.75}, []int{0, 0, 1, 1}}, {[]float32{3, 0, 0, 0}, []int{1, 1, 0, 0}},
		// Of what is no number nothing goes on.
		{[]float32{inf, 0.5, 0.5, 0.25}, []int{1, 0, 1, 0}}, {[]float32{oddNaN(), 0.5, 0.5, 0.25}, []int{0, 0, 1, 0}}, {[]float32{-inf, 0.5, 0.5, 0.25}, []int{0, 0, 1, 0}},
		{[]float32{0.5, oddNaN(), 0.75, 0.5}, []int{0, 0, 1, 0}},
		// Seven times this error is beyond all numbers, but it goes on before that is known to be none.
		{[]float32{greatest, 0, 0, 0.5}, []int{1, 1, 0, 0}}, {[]float32{greatest, -inf, 0.75, 0}, []int{1, 0, 1, 0}},
	} {
		f := row(c.values...)
		got, e := finish.Diffuse(f, 1)
		checkError(t, e, api.OK, c)
		for i, n := range c.want {
			if len(got) != len(f.V) || got[4*i] != n {
				t.Errorf("Diffuse of %v: %v, want %v", c.values, got, c.want)
				break
			}
		}
	}
}

// One pixel loses a half, and hands on sixteenths of that: they can be seen where
// they just make the difference. The pixels in between are infinite, so they hand
// on nothing.
func TestP142DiffuseShares(t *testing.T) {
	r := api.Region{X: 5, Y: -9, W: 3, H: 3}
	for _, c := range []struct {
		x, y  int
		share float32
	}{{2, 0, 7}, {0, 1, 3}, {1, 1, 5}, {2, 1, 1}, {0, 0, 0}, {0, 2, 0}} {
		for channel := range 4 {
			f := frameOf(r, infinity)
			f.V[4+channel] = 0.5
			at := 4*(3*c.y+c.x) + channel
			for want := range 2 {
				share := c.share
				if channel == 3 {
					share = 0 // alpha hands nothing on
				}
				f.V[at] = 0.5 - share/32 + float32(want)*0x1p-20
				got, e := finish.Diffuse(f, 1)
				if e != api.OK || len(got) != 36 || got[at] != want {
					t.Error("Diffuse:", c, channel, want, got, e)
				}
			}
		}
	}
}

func TestP142DiffuseErrors(t *testing.T) {
	for _, c := range badFrames() {
		for _, depth := range []int{8, 0} {
			got, e := finish.Diffuse(c.frame, depth)
			refusedList(t, got, e, c.error, "Diffuse", c.frame.Region, depth)
		}
	}
	for _, depth := range badDepths() {
		got, e := finish.Diffuse(row(1, 2), depth)
		refusedList(t, got, e, api.ErrRange, "Diffuse", depth)
	}
}

// Over a large even part hardly anything is lost.
func TestP142DiffuseKeepsMeans(t *testing.T) {
	for _, v := range []float32{0.1, 0.25, 1.0 / 3, 0.5, 0.9} {
		f := frameOf(api.Region{W: 64, H: 64}, func() float32 { return v })
		l, _ := finish.Diffuse(f, 1)
		sum := 0
		for i := 0; i < len(l); i += 4 {
			sum += l[i]
		}
		if mean := float32(sum) / 4096; mean < v-0.02 || mean > v+0.02 {
			t.Error("the mean of", v, "is", mean)
		}
	}
}
