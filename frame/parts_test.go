package frame_test

import (
	"math"
	"testing"

	"dyehouse/api"
	"dyehouse/frame"
)

// part is the part of f in r.
func part(f api.Frame, r api.Region) api.Frame {
	return frameOf(r, func(x, y, c int) float32 { return at(f, x, y, c) })
}

func TestP22Cut(t *testing.T) {
	f := wild(region(-3, 2, 5, 4), 1)
	for y := f.Y - 1; y <= f.Y+f.H; y++ {
		for x := f.X - 1; x <= f.X+f.W; x++ {
			for _, size := range [][2]int{{1, 1}, {2, 1}, {1, 3}, {5, 4}, {5, 1}, {6, 4}, {1, 5}} {
				r := region(x, y, size[0], size[1])
				g, e := frame.Cut(f, r)
				if _, n := shared(r, f.Region); n == r.W*r.H {
					check(t, g, e, part(f, r), "Cut", r)
				} else {
					refused(t, g, e, api.ErrPlace, "Cut", r)
				}
			}
		}
	}
	for r, want := range badRegions() {
		g, e := frame.Cut(f, r)
		refused(t, g, e, want, "Cut", r)
	}
}

func TestP22Paste(t *testing.T) {
	f := wild(region(-2, -1, 4, 3), 1)
	for y := -6; y < 6; y++ {
		for x := -7; x < 7; x++ {
			for _, size := range [][2]int{{1, 1}, {2, 2}, {4, 3}, {6, 7}} {
				g := wild(region(x, y, size[0], size[1]), uint64(100*x+y))
				got, e := frame.Paste(f, g)
				if _, n := shared(f.Region, g.Region); n == 0 {
					refused(t, got, e, api.ErrPlace, "Paste", g.Region)
					continue
				}
				check(t, got, e, frameOf(f.Region, func(x, y, c int) float32 {
					if has(g.Region, x, y) {
						return at(g, x, y, c)
					}
					return at(f, x, y, c)
				}), "Paste", g.Region)
			}
		}
	}
}

func TestP22JoinOfTiles(t *testing.T) {
	for i, r := range append(goodRegions()[:4], region(-5, -7, 13, 9), region(2, 3, 1, 1)) {
		f := wild(r, uint64(i))
		for _, side := range []int{1, 2, 3, 5, 8, 100, 256} {
			tiles, _ := frame.Tiles(r, side)
			var l []api.Frame
			for _, tile := range tiles {
				cut, _ := frame.Cut(f, tile)
				l = append(l, cut)
			}
			m := mixer{7}
			for k := len(l) - 1; k > 0; k-- {
				other := m.below(k + 1)
				l[k], l[other] = l[other], l[k]
			}
			g, e := frame.Join(r, l)
			check(t, g, e, f, "Join", r, side)
		}
	}
}

func TestP22JoinErrors(t *testing.T) {
	r := region(1, 1, 2, 2)
	top, bottom, dot := noise(region(1, 1, 2, 1), 1), noise(region(1, 2, 2, 1), 2), noise(region(2, 2, 1, 1), 3)
	out, large := noise(region(2, 2, 2, 1), 4), noise(region(1, 1, 3, 3), 5)
	form := api.Frame{Region: top.Region}
	nowhere := api.Frame{Region: region(api.MaxPlace, 0, 1, 1)}
	for i, c := range []struct {
		l    []api.Frame
		want api.Errno
	}{
		{nil, api.ErrEmpty},
		{[]api.Frame{}, api.ErrEmpty},
		{[]api.Frame{top}, api.ErrEmpty},
		{[]api.Frame{top, dot}, api.ErrEmpty},
		{[]api.Frame{top, top}, api.ErrTwice},
		{[]api.Frame{top, bottom, dot}, api.ErrTwice},
		{[]api.Frame{dot, bottom, top}, api.ErrTwice},
		{[]api.Frame{top, dot, top, out}, api.ErrTwice},
		{[]api.Frame{top, dot, out}, api.ErrPlace},
		{[]api.Frame{dot, out}, api.ErrPlace},
		{[]api.Frame{large}, api.ErrPlace},
		{[]api.Frame{out, form}, api.ErrPlace},
		{[]api.Frame{top, bottom, out}, api.ErrPlace},
		{[]api.Frame{form, out}, api.ErrForm},
		{[]api.Frame{top, form}, api.ErrForm},
		{[]api.Frame{top, top, form}, api.ErrTwice},
		{[]api.Frame{top, {}}, api.ErrRange},
		{[]api.Frame{top, nowhere}, api.ErrPlace},
	} {
		g, e := frame.Join(r, c.l)
		refused(t, g, e, c.want, "Join", i)
	}
	for bad, want := range badRegions() {
		g, e := frame.Join(bad, []api.Frame{form})
		refused(t, g, e, want, "Join", bad)
	}
	whole, e := frame.Join(r, []api.Frame{bottom, top})
	check(t, whole, e, of(1, 1, 2, 2, append(append([]float32{}, top.V...), bottom.V...)...), "Join")
}

func TestP23Planes(t *testing.T) {
	for i, r := range append(goodRegions(), region(-5, -7, 13, 9)) {
		f := wild(r, uint64(i))
		var planes [4][]float32
		for c := range 4 {
			for y := r.Y; y < r.Y+r.H; y++ {
				for x := r.X; x < r.X+r.W; x++ {
					planes[c] = append(planes[c], at(f, x, y, c))
				}
			}
			l, e := frame.Plane(f, c)
			checkList(t, l, planes[c], "Plane", r, c)
			if e != api.OK {
				t.Errorf("Plane %d of %v: %d", c, r, e)
			}
		}
		g, e := frame.FromPlanes(r, planes)
		check(t, g, e, f, "FromPlanes", r)
	}
}

func TestP23Errors(t *testing.T) {
	f := noise(region(0, 0, 2, 3), 1)
	for _, c := range []int{-1, 4, 5, math.MinInt, math.MaxInt} {
		if l, e := frame.Plane(f, c); len(l) != 0 || e != api.ErrRange {
			t.Errorf("Plane %d: %v %d", c, l, e)
		}
	}
	for c := range 4 {
		for _, n := range []int{0, 1, 5, 7, 24} {
			p := [4][]float32{make([]float32, 6), make([]float32, 6), make([]float32, 6), make([]float32, 6)}
			p[c] = make([]float32, n, 30)
			g, e := frame.FromPlanes(f.Region, p)
			refused(t, g, e, api.ErrForm, "FromPlanes", c, n)
		}
	}
	for r, want := range badRegions() {
		g, e := frame.FromPlanes(r, [4][]float32{})
		refused(t, g, e, want, "FromPlanes", r)
	}
}

func TestP28Total(t *testing.T) {
	inf := infinity()
	for _, c := range []struct {
		f    api.Frame
		want api.Pixel
	}{
		{of(0, 0, 1, 1, minusZero(), single(0xff800001), -inf, 5), api.Pixel{minusZero(), single(nanBits), -inf, 5}},
		{of(0, 0, 2, 1, minusZero(), inf, 1, 3e38, minusZero(), -inf, 2, 3e38), api.Pixel{minusZero(), single(nanBits), 3, inf}},
		// The first one, and the two others together: not one after the other.
		{of(0, 0, 1, 3, 1, 0, 0, 0, 0x1p-24, 0, 0, 0, 0x1p-24, 0, 0, 0), api.Pixel{0x1.000002p0, 0, 0, 0}},
	} {
		p, e := frame.Total(c.f)
		if checkList(t, p[:], c.want[:], "Total", c.f); e != api.OK {
			t.Errorf("Total of %v: %d", c.f, e)
		}
	}
	for i, r := range append(goodRegions(), region(-5, -7, 13, 9)) {
		f := noise(r, uint64(i))
		p, e := frame.Total(f)
		for c := range 4 {
			if want := halved(part(f, r), c, 0, r.W*r.H); p[c] != want || e != api.OK {
				t.Errorf("Total of %v, channel %d: %v %d, want %v", r, c, p[c], e, want)
			}
		}
	}
}

// halved adds up a channel of the pixels from a number on, below another one.
func halved(f api.Frame, c, from, to int) float32 {
	if to-from == 1 {
		return f.V[4*from+c]
	}
	middle := from + (to-from)/2
	return add(halved(f, c, from, middle), halved(f, c, middle, to))
}
