package key_test

import (
	"math"
	"testing"

	"dyehouse/api"
	"dyehouse/frame"
	"dyehouse/key"
)

// wantSum is the sum of the halves' sums.
func wantSum(l []float32) float32 {
	if len(l) == 1 {
		return l[0]
	}
	return add(wantSum(l[:len(l)/2]), wantSum(l[len(l)/2:]))
}

// has says whether (x, y) is a pixel of r.
func has(r api.Region, x, y int) bool { return x >= r.X && x < r.X+r.W && y >= r.Y && y < r.Y+r.H }

// wantDifference is what Difference returns, and whether there is anything in
// common.
func wantDifference(a, b api.Frame, dx, dy int) (float32, bool) {
	var l []float32
	for y := a.Y; y < a.Y+a.H; y++ {
		for x := a.X; x < a.X+a.W; x++ {
			if !has(b.Region, x-dx, y-dy) {
				continue
			}
			p, q := pixelAt(a, x, y), pixelAt(b, x-dx, y-dy)
			for i := range 3 {
				if clean(p[i]) == clean(q[i]) {
					l = append(l, 0)
				} else {
					l = append(l, abs(sub(p[i], q[i])))
				}
			}
		}
	}
	if len(l) == 0 {
		return 0, false
	}
	return div(wantSum(l), float32(len(l))), true
}

func TestP114DifferenceOfAll(t *testing.T) {
	m := mixer{}
	apart := 0
	for i := range 2000 {
		value := []func() float32{m.share, m.plain, m.plain, m.odd}[i%4]
		a := frameOf(api.Region{X: m.from(-3, 3), Y: m.from(-3, 3), W: m.from(1, 9), H: m.from(1, 9)}, value)
		b := frameOf(api.Region{X: m.from(-3, 3), Y: m.from(-3, 3), W: m.from(1, 9), H: m.from(1, 9)}, value)
		dx, dy := m.from(-5, 5), m.from(-5, 5)
		want, some := wantDifference(a, b, dx, dy)
		got, e := key.Difference(a, b, dx, dy)
		if !some {
			apart++
			refused(t, got, e, api.ErrEmpty, "Difference", a.Region, b.Region, dx, dy)
			continue
		}
		check(t, got, want, "Difference", a.Region, b.Region, dx, dy)
		checkError(t, e, api.OK, "Difference", a.Region, b.Region, dx, dy)
	}
	if apart < 100 || apart > 1500 {
		t.Error(apart, "frames have nothing in common")
	}
	r := api.Region{X: -7, Y: 300, W: 64, H: 256}
	a, b := frameOf(r, m.plain), frameOf(r, m.plain)
	want, _ := wantDifference(a, b, 0, 0)
	got, e := key.Difference(a, b, 0, 0)
	check(t, got, want, "Difference of many pixels")
	checkError(t, e, api.OK, "Difference of many pixels")
}

// pixelsOf is a frame, one row high, of pixels.
func pixelsOf(x, y int, pixels ...api.Pixel) api.Frame {
	f := api.Frame{Region: api.Region{X: x, Y: y, W: len(pixels), H: 1}}
	for _, p := range pixels {
		f.V = append(f.V, p[:]...)
	}
	return f
}

func TestP114Difference(t *testing.T) {
	nan := single(nanBits)
	inf := infinity()
	for _, c := range []struct {
		a, b api.Pixel
		want float32
	}{
		{api.Pixel{1, 2, 3, 4}, api.Pixel{1, 2, 3, 9}, 0}, {api.Pixel{1, 2, 3, 4}, api.Pixel{4, 2, 3, 4}, 1}, {api.Pixel{1, 2, 3, 4}, api.Pixel{1, -1, 3, 4}, 1}, {api.Pixel{1, 2, 3, 4}, api.Pixel{1, 2, 6, 4}, 1},
		{api.Pixel{1, 2, 3, 0}, api.Pixel{-1, 4, 1, 0}, 2}, {api.Pixel{0, 0, 0, 0}, api.Pixel{minusZero(), minusZero(), minusZero(), 1}, 0}, {api.Pixel{inf, 0, 0, 0}, api.Pixel{inf, 0, 0, 0}, 0},
		{api.Pixel{-inf, inf, -inf, 0}, api.Pixel{-inf, inf, -inf, 0}, 0}, {api.Pixel{inf, 0, 0, 0}, api.Pixel{-inf, 0, 0, 0}, inf}, {api.Pixel{inf, 0, 0, 0}, api.Pixel{1, 0, 0, 0}, inf},
		{api.Pixel{nan, 0, 0, 0}, api.Pixel{nan, 0, 0, 0}, 0}, {api.Pixel{oddNaN(), 0, 0, 0}, api.Pixel{oddNaN(), 0, 0, 0}, 0}, {api.Pixel{nan, nan, nan, 0}, api.Pixel{oddNaN(), oddNaN(), single(0x7f800001), 0}, 0}, // no matter which NaNs
		{api.Pixel{nan, 0, 0, 0}, api.Pixel{0, 0, 0, 0}, nan}, {api.Pixel{0, 0, 0, 0}, api.Pixel{0, 0, oddNaN(), 0}, nan}, {api.Pixel{0, 0, 0, nan}, api.Pixel{0, 0, 0, oddNaN()}, 0}, {api.Pixel{nan, inf, 0, 0}, api.Pixel{0, 0, 0, 0}, nan},
		{api.Pixel{greatest, 0, 0, 0}, api.Pixel{-greatest, 0, 0, 0}, inf}, {api.Pixel{greatest, greatest, 0, 0}, api.Pixel{}, inf}, {api.Pixel{least, least, least, 0}, api.Pixel{}, least},
	} {
		for _, swapped := range []bool{false, true} {
			if swapped {
				c.a, c.b = c.b, c.a
			}
			got, e := key.Difference(pixelsOf(3, 4, c.a), pixelsOf(1, 9, c.b), 2, -5)
			check(t, got, c.want, "Difference", c.a, c.b)
			checkError(t, e, api.OK, "Difference", c.a, c.b)
		}
	}
	a := pixelsOf(0, 0, api.Pixel{1}, api.Pixel{2}, api.Pixel{4}, api.Pixel{8})
	b := pixelsOf(0, 0, api.Pixel{1}, api.Pixel{2}, api.Pixel{4}, api.Pixel{8})
	for dx, want := range map[int]float32{0: 0, 1: div(7, 9), -1: div(7, 9), 2: div(9, 6), 3: div(7, 3), -3: div(7, 3)} {
		got, e := key.Difference(a, b, dx, 0)
		check(t, got, want, "Difference", dx)
		checkError(t, e, api.OK, "Difference", dx)
	}
	b = pixelsOf(0, 0, api.Pixel{2}, api.Pixel{4}, api.Pixel{8}, api.Pixel{16}) // moved by 1 it is a
	got, _ := key.Difference(a, b, 1, 0)
	check(t, got, 0, "Difference, moved to the right")
}

func TestP114DifferenceErrors(t *testing.T) {
	good := pixelsOf(0, 0, api.Pixel{}, api.Pixel{}, api.Pixel{})
	worse := api.Frame{Region: api.Region{W: 3, H: 1}, V: make([]float32, 13)} // ErrForm
	for _, c := range badFrames() {
		for _, d := range []int{0, 257, 200} {
			got, e := key.Difference(c.frame, good, d, d)
			refused(t, got, e, c.error, "Difference", c.frame.Region)
			got, e = key.Difference(good, c.frame, d, d)
			refused(t, got, e, c.error, "Difference", c.frame.Region)
			got, e = key.Difference(c.frame, worse, d, d)
			refused(t, got, e, c.error, "Difference", c.frame.Region)
			got, e = key.Difference(worse, c.frame, d, d)
			refused(t, got, e, api.ErrForm, "Difference", c.frame.Region)
		}
	}
	for _, n := range append(badInts(), 257, -257) {
		for _, d := range [][2]int{{n, 0}, {0, n}, {n, n}, {256, n}} {
			got, e := key.Difference(good, good, d[0], d[1])
			refused(t, got, e, api.ErrRange, "Difference", d)
		}
	}
	for _, d := range [][2]int{{3, 0}, {-3, 0}, {0, 1}, {0, -1}, {256, 0}, {0, -256}, {-256, 256}} {
		got, e := key.Difference(good, good, d[0], d[1])
		refused(t, got, e, api.ErrEmpty, "Difference", d)
	}
}

// Frames at the edge of the plane may be moved beyond it.
func TestP114DifferenceAtTheEdge(t *testing.T) {
	m := mixer{}
	a := frameOf(api.Region{X: far - 256, Y: -far, W: 256, H: 2}, m.share)
	b := frameOf(api.Region{X: far - 4, Y: -far, W: 4, H: 64}, m.share)
	for _, d := range [][2]int{{0, 0}, {3, -63}, {3, 0}, {-252, 1}, {-255, -62}, {-1, -1}, {4, 0}, {-256, 0}, {0, 2}, {0, -64}, {256, -256}} {
		want, some := wantDifference(a, b, d[0], d[1])
		got, e := key.Difference(a, b, d[0], d[1])
		if !some {
			refused(t, got, e, api.ErrEmpty, "Difference", d)
			continue
		}
		check(t, got, want, "Difference", d)
		checkError(t, e, api.OK, "Difference", d)
	}
	left := frameOf(api.Region{X: -far, Y: far - 3, W: 256, H: 3}, m.share)
	for dx := -256; dx <= 256; dx++ {
		want, some := wantDifference(left, left, dx, 2)
		got, e := key.Difference(left, left, dx, 2)
		if check(t, got, want, "Difference", dx); some != (e == api.OK) {
			t.Error("Difference", dx, e)
		}
	}
}

// wantTrack is what Track returns, and whether there is anything: each part is
// cut out and brought back.
func wantTrack(a, b api.Frame, r api.Region, reach int) (api.Point, float32, bool) {
	pattern, _ := frame.Cut(a, r)
	var found api.Point
	best, some := infinity(), false
	for dy := -reach; dy <= reach; dy++ {
		for dx := -reach; dx <= reach; dx++ {
			there, e := frame.Cut(b, api.Region{X: r.X + dx, Y: r.Y + dy, W: r.W, H: r.H})
			if e != api.OK {
				continue
			}
			there.Region = r
			d, _ := wantDifference(pattern, there, 0, 0)
			if !some || d < best {
				found = api.Point{X: dx, Y: dy}
			}
			if d < best {
				best = d
			}
			some = true
		}
	}
	return found, best, some
}

func TestP115TrackOfAll(t *testing.T) {
	m := mixer{}
	few := func() float32 { return float32(m.below(3)) }
	none := 0
	for i := range 1500 {
		value := []func() float32{m.share, few, few, m.wild, m.odd}[i%5]
		a := frameOf(api.Region{X: m.from(-4, 4), Y: m.from(-4, 4), W: m.from(1, 6), H: m.from(1, 6)}, value)
		b := frameOf(api.Region{X: m.from(-4, 4), Y: m.from(-4, 4), W: m.from(1, 9), H: m.from(1, 9)}, value)
		r := api.Region{X: a.X + m.below(a.W), Y: a.Y + m.below(a.H)}
		r.W, r.H = m.from(1, a.X+a.W-r.X), m.from(1, a.Y+a.H-r.Y)
		reach := m.below(9)
		want, least, some := wantTrack(a, b, r, reach)
		got, d, e := key.Track(a, b, r, reach)
		if !some {
			none++
			refused(t, got, e, api.ErrEmpty, "Track", a.Region, b.Region, r, reach)
			refused(t, d, e, api.ErrEmpty, "Track", a.Region, b.Region, r, reach)
			continue
		}
		checkError(t, e, api.OK, "Track", a.Region, b.Region, r, reach)
		if check(t, d, least, "Track", a.Region, b.Region, r, reach); got != want {
			t.Error("Track", a.Region, b.Region, r, reach, "found", got, "want", want)
		}
	}
	if none < 50 || none > 750 {
		t.Error("in", none, "cases nothing is there")
	}
}

// checkTrack tells of a call of Track that did not find this.
func checkTrack(t *testing.T, a, b api.Frame, r api.Region, reach int, want api.Point, least float32) {
	t.Helper()
	got, d, e := key.Track(a, b, r, reach)
	checkError(t, e, api.OK, "Track", r, reach)
	if check(t, d, least, "Track", r, reach); got != want {
		t.Error("Track", r, reach, "found", got, "want", want)
	}
}

func TestP115Track(t *testing.T) {
	zero := func() float32 { return 0 }
	black := frameOf(api.Region{W: 9, H: 9}, zero)
	r := api.Region{X: 3, Y: 3, W: 2, H: 2}
	// Of equal ones the first is found: the least dy, then the least dx.
	for reach := range 33 {
		first := -min(reach, 3)
		checkTrack(t, black, black, r, reach, api.Point{X: first, Y: first}, 0)
	}
	m := mixer{}
	noise := frameOf(black.Region, m.share)
	for _, n := range []int{-2, -1, 0, 1, 4} {
		moved := noise
		moved.X, moved.Y = n, -n
		reach := 4
		checkTrack(t, noise, moved, r, reach, api.Point{X: n, Y: -n}, 0)
	}
	// Rows come before columns.
	a, b := frameOf(api.Region{W: 3, H: 3}, zero), frameOf(api.Region{W: 3, H: 3}, zero)
	a.V[4*4], b.V[4*2], b.V[4*6] = 1, 1, 1
	checkTrack(t, a, b, api.Region{X: 1, Y: 1, W: 1, H: 1}, 1, api.Point{X: 1, Y: -1}, 0)
	// NaNs count as infinity, and are told so.
	lost := frameOf(api.Region{W: 3, H: 3}, func() float32 { return oddNaN() })
	checkTrack(t, a, lost, api.Region{X: 1, Y: 1, W: 1, H: 1}, 1, api.Point{X: -1, Y: -1}, infinity())
	lost.V[4*5], lost.V[4*5+1], lost.V[4*5+2] = infinity(), 0, 0
	checkTrack(t, a, lost, api.Region{X: 1, Y: 1, W: 1, H: 1}, 1, api.Point{X: -1, Y: -1}, infinity())
	lost.V[4*7], lost.V[4*7+1], lost.V[4*7+2] = greatest, 0, 0
	checkTrack(t, a, lost, api.Region{X: 1, Y: 1, W: 1, H: 1}, 1, api.Point{X: 0, Y: 1}, div(sub(greatest, 1), 3))
	checkTrack(t, lost, lost, api.Region{X: 0, Y: 0, W: 1, H: 1}, 1, api.Point{X: 0, Y: 0}, 0) // a NaN meets a NaN
	// A pattern may be as large as a, and b may be far away from it.
	whole := frameOf(api.Region{X: -far, Y: far - 64, W: 256, H: 64}, m.share)
	checkTrack(t, whole, whole, whole.Region, 32, api.Point{}, 0)
	away := whole
	away.X += 32
	checkTrack(t, whole, away, whole.Region, 32, api.Point{X: 32}, 0)
}

func TestP115TrackErrors(t *testing.T) {
	m := mixer{}
	a, b := frameOf(api.Region{W: 4, H: 4}, m.share), frameOf(api.Region{X: 10, W: 4, H: 4}, m.share)
	worse := api.Frame{Region: a.Region, V: make([]float32, 65)} // ErrForm
	track := func(a, b api.Frame, r api.Region, reach int, want api.Errno) {
		t.Helper()
		p, d, e := key.Track(a, b, r, reach)
		refused(t, p, e, want, "Track", a.Region, b.Region, r, reach)
		refused(t, d, e, want, "Track", a.Region, b.Region, r, reach)
	}
	inner := api.Region{X: 1, Y: 1, W: 2, H: 2}
	for _, r := range []api.Region{inner, {}, {X: 3, W: 2, H: 1}} {
		for _, reach := range []int{0, 33} {
			for _, c := range badFrames() {
				track(c.frame, b, r, reach, c.error)
				track(a, c.frame, r, reach, c.error)
				track(c.frame, worse, r, reach, c.error)
				track(worse, c.frame, r, reach, api.ErrForm)
			}
		}
	}
	for _, reach := range []int{0, 32, 33, -1} {
		for _, c := range badRegions() {
			track(a, b, c.Region, reach, c.error)
		}
		for _, r := range []api.Region{{X: -1, W: 1, H: 1}, {X: 3, W: 2, H: 1}, {Y: 3, W: 1, H: 2}, {Y: -1, W: 1, H: 1}, {X: 10, W: 1, H: 1}, {W: 5, H: 5}} {
			track(a, b, r, reach, api.ErrPlace)
		}
	}
	for _, reach := range append(badInts(), -1, 33, -33) {
		track(a, b, inner, reach, api.ErrRange)
		track(a, a, inner, reach, api.ErrRange)
	}
	for reach := range 33 {
		if reach < 9 {
			track(a, b, inner, reach, api.ErrEmpty)
		}
		track(a, frameOf(api.Region{W: 1, H: 9}, m.share), inner, reach, api.ErrEmpty) // too narrow
		track(a, frameOf(api.Region{W: 9, H: 1}, m.share), inner, reach, api.ErrEmpty)
		track(a, frameOf(api.Region{X: far - 9, W: 9, H: 9}, m.share), inner, reach, api.ErrEmpty)
	}
}

// wantTrackAll are the places that TrackAll finds, as far as there are any.
func wantTrackAll(l []api.Frame, r api.Region, reach int) ([]api.Point, bool) {
	places := []api.Point{{X: r.X, Y: r.Y}}
	for i := range l[1:] {
		d, _, some := wantTrack(l[i], l[i+1], r, reach)
		if !some {
			return nil, false
		}
		r.X, r.Y = r.X+d.X, r.Y+d.Y
		places = append(places, api.Point{X: r.X, Y: r.Y})
	}
	return places, true
}

// checkTrackAll tells of a call of TrackAll that did not find these places.
func checkTrackAll(t *testing.T, l []api.Frame, r api.Region, reach int, want []api.Point) {
	t.Helper()
	got, e := key.TrackAll(l, r, reach)
	checkError(t, e, api.OK, "TrackAll", len(l), r, reach)
	if len(got) != len(want) {
		t.Fatal("TrackAll", r, reach, "found", got, "want", want)
	}
	for i, p := range got {
		if p != want[i] {
			t.Error("TrackAll", r, reach, "found", got, "want", want)
			return
		}
	}
}

func TestP115TrackAll(t *testing.T) {
	m := mixer{}
	for i := range 200 {
		value := []func() float32{m.share, func() float32 { return float32(m.below(3)) }, m.odd}[i%3]
		l := make([]api.Frame, m.from(1, 6))
		for n := range l {
			l[n] = frameOf(api.Region{X: m.from(-1, 1), Y: m.from(-1, 1), W: m.from(8, 10), H: m.from(8, 10)}, value)
		}
		r := api.Region{X: m.from(1, 3), Y: m.from(1, 3), W: m.from(1, 4), H: m.from(1, 4)}
		reach := m.below(6)
		if want, some := wantTrackAll(l, r, reach); some {
			checkTrackAll(t, l, r, reach, want)
		}
	}
	// A pattern that wanders on: what is tracked is the one of the frame before.
	noise := frameOf(api.Region{W: 8, H: 8}, m.share)
	l := make([]api.Frame, 100)
	want := make([]api.Point, 100)
	for n := range l {
		l[n] = noise
		l[n].X, l[n].Y = 2*n, -n
		want[n] = api.Point{X: 3 + 2*n, Y: 2 - n}
	}
	checkTrackAll(t, l, api.Region{X: 3, Y: 2, W: 3, H: 4}, 2, want)
	checkTrackAll(t, l[:1], api.Region{X: 3, Y: 2, W: 3, H: 4}, 2, want[:1])
}

func TestP115TrackAllErrors(t *testing.T) {
	m := mixer{}
	noise := frameOf(api.Region{W: 8, H: 8}, m.share)
	away := frameOf(api.Region{X: 50, W: 8, H: 8}, m.share)
	r := api.Region{X: 3, Y: 3, W: 3, H: 3}
	track := func(l []api.Frame, r api.Region, reach int, want api.Errno) {
		t.Helper()
		got, e := key.TrackAll(l, r, reach)
		if len(got) != 0 {
			t.Error("TrackAll found", got)
		}
		checkError(t, e, want, "TrackAll", len(l), r, reach)
	}
	for _, reach := range []int{2, -1, math.MaxInt} {
		track(nil, r, reach, api.ErrEmpty)
		track([]api.Frame{}, api.Region{}, reach, api.ErrEmpty)
		track(make([]api.Frame, 101), r, reach, api.ErrLarge)
	}
	hundredOne := make([]api.Frame, 101)
	for i := range hundredOne {
		hundredOne[i] = noise
	}
	track(hundredOne, r, 2, api.ErrLarge)
	two, three := []api.Frame{noise, noise}, []api.Frame{noise, away, noise}
	for _, c := range badRegions() {
		track(two, c.Region, 99, c.error)
	}
	track(two, api.Region{X: 6, W: 3, H: 3}, 99, api.ErrPlace)
	for _, reach := range append(badInts(), -1, 33) {
		track(two, r, reach, api.ErrRange)
		track(three, r, reach, api.ErrRange)
	}
	track(three, r, 2, api.ErrEmpty)
	for _, c := range badFrames() {
		track([]api.Frame{c.frame, noise}, api.Region{}, 99, c.error)
		track([]api.Frame{noise, c.frame}, api.Region{}, 99, c.error)
		track([]api.Frame{noise, noise, c.frame}, r, 2, c.error)
		track([]api.Frame{noise, away, c.frame}, r, 2, api.ErrEmpty) // the first two frames come first
		track([]api.Frame{noise, noise, c.frame}, r, 99, api.ErrRange)
	}
}
