package key

import (
	"math"

	"dyehouse/api"
	"dyehouse/frame"
	"dyehouse/num"
)

// Bounds of tracking: how far a pattern is looked for, and in how many frames.
const (
	maxSearch  = 32
	maxTracked = 100
)

// checkBoth is the error of the first of two frames that has one.
func checkBoth(a, b api.Frame) api.Errno {
	if e := frame.Check(a); e != api.OK {
		return e
	}
	return frame.Check(b)
}

// shared is the region of those pixels of a that b has, too, when it is moved by
// (dx, dy), and whether there are any. (frame.Common does not specify its results
// where b would lie beyond MaxPlace.)
func shared(a, b api.Region, dx, dy int) (api.Region, bool) {
	left, top := max(a.X, b.X+dx), max(a.Y, b.Y+dy)
	right, bottom := min(a.X+a.W, b.X+dx+b.W), min(a.Y+a.H, b.Y+dy+b.H)
	return api.Region{X: left, Y: top, W: right - left, H: bottom - top}, left < right && top < bottom
}

// row returns the singles of w pixels of f, from (x, y) on.
func row(f api.Frame, x, y, w int) []float32 {
	from := channels * ((y-f.Y)*f.W + x - f.X)
	return f.V[from : from+channels*w]
}

// apart is how far the pixels of a in the region r are from those of b that stand
// (dx, dy) away.
func apart(a, b api.Frame, r api.Region, dx, dy int) float32 {
	l := make([]float32, 0, colours*r.W*r.H)
	for y := r.Y; y < r.Y+r.H; y++ {
		others := row(b, r.X+dx, y+dy, r.W)
		for i, v := range row(a, r.X, y, r.W) {
			if i%channels < colours {
				l = append(l, difference(v, others[i]))
			}
		}
	}
	return num.Clean(num.Sum(l) / float32(len(l)))
}

// difference is the magnitude of that of two singles; there is none between
// equal infinities, nor between NaNs.
func difference(v, w float32) float32 {
	if num.Bits(v) == num.Bits(w) {
		return 0
	}
	return magnitude(v - w)
}

// Difference is described in doc/06-key.md.
func Difference(a, b api.Frame, dx, dy int) (float32, api.Errno) {
	if e := checkBoth(a, b); e != api.OK {
		return 0, e
	}
	for _, d := range [...]int{dx, dy} {
		if d < -api.MaxSide || d > api.MaxSide {
			return 0, api.ErrRange
		}
	}
	both, some := shared(a.Region, b.Region, dx, dy)
	if !some {
		return 0, api.ErrEmpty
	}
	return apart(a, b, both, -dx, -dy), api.OK
}

// checkTrack is the error of the arguments of Track.
func checkTrack(a, b api.Frame, r api.Region, reach int) api.Errno {
	if e := checkBoth(a, b); e != api.OK {
		return e
	}
	if e := frame.CheckRegion(r); e != api.OK {
		return e
	}
	if !frame.Inside(r, a.Region) {
		return api.ErrPlace
	}
	if reach < 0 || reach > maxSearch {
		return api.ErrRange
	}
	return api.OK
}

// Track is described in doc/06-key.md.
func Track(a, b api.Frame, r api.Region, reach int) (api.Point, float32, api.Errno) {
	if e := checkTrack(a, b, r, reach); e != api.OK {
		return api.Point{}, 0, e
	}
	first := api.Point{X: max(-reach, b.X-r.X), Y: max(-reach, b.Y-r.Y)}
	last := api.Point{X: min(reach, b.X+b.W-r.X-r.W), Y: min(reach, b.Y+b.H-r.Y-r.H)}
	if first.X > last.X || first.Y > last.Y {
		return api.Point{}, 0, api.ErrEmpty
	}
	// What is infinite, or a NaN, is never less: if all are, the first one is found.
	found, least := first, float32(math.Inf(1))
	for dy := first.Y; dy <= last.Y; dy++ {
		for dx := first.X; dx <= last.X; dx++ {
			if d := apart(a, b, r, dx, dy); d < least {
				found, least = api.Point{X: dx, Y: dy}, d
			}
		}
	}
	return found, least, api.OK
}

// TrackAll is described in doc/06-key.md.
func TrackAll(l []api.Frame, r api.Region, reach int) ([]api.Point, api.Errno) {
	if len(l) == 0 {
		return nil, api.ErrEmpty
	}
	if len(l) > maxTracked {
		return nil, api.ErrLarge
	}
	places := []api.Point{{X: r.X, Y: r.Y}}
	for i := 1; i < len(l); i++ {
		moved, _, e := Track(l[i-1], l[i], r, reach)
		if e != api.OK {
			return nil, e
		}
		r.X += moved.X
		r.Y += moved.Y
		places = append(places, api.Point{X: r.X, Y: r.Y})
	}
	return places, api.OK
}
