package frame_test

import (
	"math"
	"testing"

	"dyehouse/api"
	"dyehouse/frame"
)

func TestP21Check(t *testing.T) {
	for _, b := range badFrames() {
		if e := frame.Check(b.frame); e != b.error {
			t.Errorf("Check of %v with %d singles: %d, want %d", b.frame.Region, len(b.frame.V), e, b.error)
		}
	}
	for _, r := range goodRegions() {
		if e := frame.Check(wild(r, 1)); e != api.OK {
			t.Errorf("Check of %v: %d", r, e)
		}
	}
}

// taking are the functions with one frame; their other arguments are wrong, as
// far as they can be. Each says whether there was a result.
func taking() map[string]func(f api.Frame) (bool, api.Errno) {
	one := func(g api.Frame, e api.Errno) (bool, api.Errno) { return !isNothing(g), e }
	return map[string]func(f api.Frame) (bool, api.Errno){
		"Clean":    func(f api.Frame) (bool, api.Errno) { return one(frame.Clean(f)) },
		"Put":      func(f api.Frame) (bool, api.Errno) { return one(frame.Put(f, -9, 9, api.Pixel{})) },
		"Cut":      func(f api.Frame) (bool, api.Errno) { return one(frame.Cut(f, region(0, 0, -1, 1))) },
		"Scale":    func(f api.Frame) (bool, api.Errno) { return one(frame.Scale(f, api.Pixel{}, api.Pixel{})) },
		"Kernel":   func(f api.Frame) (bool, api.Errno) { return one(frame.Kernel(f, nil, 2)) },
		"Blur":     func(f api.Frame) (bool, api.Errno) { return one(frame.Blur(f, -1)) },
		"Half":     func(f api.Frame) (bool, api.Errno) { return one(frame.Half(f)) },
		"Resample": func(f api.Frame) (bool, api.Errno) { return one(frame.Resample(f, region(0, 0, 999, 1), 0, 0)) },
		"Join":     func(f api.Frame) (bool, api.Errno) { return one(frame.Join(region(90, 90, 1, 1), []api.Frame{f})) },
		"At": func(f api.Frame) (bool, api.Errno) {
			p, e := frame.At(f, -9, 9)
			return p != api.Pixel{}, e
		},
		"Plane": func(f api.Frame) (bool, api.Errno) {
			l, e := frame.Plane(f, 4)
			return len(l) > 0, e
		},
		"Total": func(f api.Frame) (bool, api.Errno) {
			p, e := frame.Total(f)
			return p != api.Pixel{}, e
		},
		"Print": func(f api.Frame) (bool, api.Errno) {
			text, e := frame.Print(f)
			return text != "", e
		},
	}
}

// takingTwo are the functions with two frames, likewise.
func takingTwo() map[string]func(a, b api.Frame) (api.Frame, api.Errno) {
	return map[string]func(a, b api.Frame) (api.Frame, api.Errno){
		"Paste":   frame.Paste,
		"Combine": func(a, b api.Frame) (api.Frame, api.Errno) { return frame.Combine(0, a, b) },
		"Mix":     func(a, b api.Frame) (api.Frame, api.Errno) { return frame.Mix(a, b, 0.5) },
		"Through": func(a, b api.Frame) (api.Frame, api.Errno) { return frame.Through(a, b, api.Matte{}) },
	}
}

func TestP21CheckComesFirst(t *testing.T) {
	good := noise(region(5, 5, 2, 1), 1)
	form := api.Frame{Region: region(0, 0, 2, 1)}
	for _, b := range badFrames() {
		for name, call := range taking() {
			if some, e := call(b.frame); some || e != b.error {
				t.Errorf("%s of %v with %d singles: %d, want %d", name, b.frame.Region, len(b.frame.V), e, b.error)
			}
		}
		for name, call := range takingTwo() {
			g, e := call(b.frame, good)
			refused(t, g, e, b.error, name, b.frame.Region, "the first one")
			g, e = call(good, b.frame)
			refused(t, g, e, b.error, name, b.frame.Region, "the second one")
			g, e = call(b.frame, form)
			refused(t, g, e, b.error, name, b.frame.Region, "the first one of two")
			g, e = call(form, b.frame)
			refused(t, g, e, api.ErrForm, name, b.frame.Region, "the second one of two")
		}
	}
}

func TestP21Take(t *testing.T) {
	odd := oddities()
	for i := range odd {
		var l []float32
		for k := range 4 {
			l = append(l, odd[(i+k)%len(odd)])
		}
		for _, s := range [][]float32{l, append(l[:4:4], 7, 8)} {
			s, changed := spare(s)
			p, e := frame.Take(s)
			if e != api.OK || changed() {
				t.Errorf("Take of %v: %d", s, e)
			}
			for k, v := range p {
				if math.Float32bits(v) != math.Float32bits(s[k]) {
					t.Errorf("Take of %v: %08x is %08x", s, math.Float32bits(s[k]), math.Float32bits(v))
				}
			}
		}
	}
	for n := range 4 {
		if p, e := frame.Take(make([]float32, n, 8)); p != (api.Pixel{}) || e != api.ErrForm {
			t.Errorf("Take of %d: %v %d", n, p, e)
		}
	}
	if p, e := frame.Take(nil); p != (api.Pixel{}) || e != api.ErrForm {
		t.Errorf("Take of nil: %v %d", p, e)
	}
}

func TestP21Clean(t *testing.T) {
	for i, r := range goodRegions() {
		f := wild(r, uint64(i))
		g, e := frame.Clean(f)
		check(t, g, e, f, "Clean", r)
	}
}

func TestP21Same(t *testing.T) {
	nan, other := single(nanBits), single(0xff800001)
	one := of(1, 2, 1, 1, 1, nan, 0, minusZero())
	for _, c := range []struct {
		a, b api.Frame
		want bool
	}{
		{one, one, true},
		{one, of(1, 2, 1, 1, 1, other, 0, minusZero()), true},
		{one, of(1, 2, 1, 1, 1, nan, minusZero(), minusZero()), false},
		{one, of(1, 2, 1, 1, 1, nan, 0, 0), false},
		{one, of(1, 2, 1, 1, 1, infinity(), 0, minusZero()), false},
		{one, of(1, 2, 1, 1, 2, nan, 0, minusZero()), false},
		{one, of(2, 2, 1, 1, one.V...), false},
		{one, of(1, 1, 1, 1, one.V...), false},
		{of(0, 0, 2, 1, 1, 2), of(0, 0, 1, 2, 1, 2), false},
		{one, of(1, 2, 1, 1), false},
		{one, of(1, 2, 1, 1, one.V[:3]...), false},
		{one, of(1, 2, 1, 1, 1, nan, 0, minusZero(), 0), false},
		{of(0, 0, -1, 300), api.Frame{Region: region(0, 0, -1, 300), V: []float32{}}, true},
		{of(0, 0, -1, 300, other), of(0, 0, -1, 300, nan), true},
		{of(0, 0, -1, 300, 1), of(0, 0, -1, 300, 2), false},
		{of(0, 0, -1, 300, 1), of(0, 0, -1, 300), false},
		{api.Frame{}, api.Frame{}, true},
		{api.Frame{}, of(0, 0, 0, 0, 1), false},
	} {
		if frame.Same(c.a, c.b) != c.want || frame.Same(c.b, c.a) != c.want {
			t.Errorf("Same of %v and %v: not %v", c.a, c.b, c.want)
		}
	}
}

func TestP22Fill(t *testing.T) {
	odd := oddities()
	for i, r := range goodRegions() {
		p := api.Pixel{odd[i], 0.25, odd[(i+8)%len(odd)], odd[len(odd)-1-i]}
		f, e := frame.Fill(r, p)
		check(t, f, e, frameOf(r, func(_, _, c int) float32 { return p[c] }), "Fill", r)
	}
	for r, want := range badRegions() {
		f, e := frame.Fill(r, api.Pixel{1, 2, 3, 4})
		refused(t, f, e, want, "Fill", r)
	}
}

// outside are places around a region that are not in it.
func outside(r api.Region) []api.Point {
	right, bottom := r.X+r.W, r.Y+r.H
	return []api.Point{
		{X: r.X - 1, Y: r.Y}, {X: r.X, Y: r.Y - 1}, {X: right, Y: r.Y}, {X: r.X, Y: bottom}, {X: right - 1, Y: bottom}, {X: right, Y: bottom - 1},
		{X: r.X - 1, Y: bottom - 1}, {X: math.MaxInt, Y: r.Y}, {X: math.MinInt, Y: r.Y}, {X: r.X, Y: math.MaxInt}, {X: r.X, Y: math.MinInt},
	}
}

func TestP22AtAndPut(t *testing.T) {
	f := wild(region(-2, 3, 5, 4), 3)
	p := api.Pixel{minusZero(), single(0xffc00001), infinity(), 0.5}
	for y := f.Y; y < f.Y+f.H; y++ {
		for x := f.X; x < f.X+f.W; x++ {
			got, e := frame.At(f, x, y)
			if e != api.OK {
				t.Errorf("At(%d, %d): %d", x, y, e)
			}
			checkList(t, got[:], []float32{at(f, x, y, 0), at(f, x, y, 1), at(f, x, y, 2), at(f, x, y, 3)}, "At", x, y)
			g, e := frame.Put(f, x, y, p)
			check(t, g, e, frameOf(f.Region, func(a, b, c int) float32 {
				if a == x && b == y {
					return p[c]
				}
				return at(f, a, b, c)
			}), "Put", x, y)
		}
	}
	for _, c := range outside(f.Region) {
		if got, e := frame.At(f, c.X, c.Y); got != (api.Pixel{}) || e != api.ErrPlace {
			t.Errorf("At of %v: %v %d", c, got, e)
		}
		g, e := frame.Put(f, c.X, c.Y, p)
		refused(t, g, e, api.ErrPlace, "Put", c)
	}
}
