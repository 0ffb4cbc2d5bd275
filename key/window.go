package key

import (
	"slices"

	"dyehouse/api"
	"dyehouse/frame"
)

// Bounds of windows.
const (
	maxSoft   = 4096
	minPoints = 3
	maxPoints = 32
)

// singles are the places of the singles of w, in the order in which they are
// written.
func singles(w *api.Window) [5]*float32 {
	return [...]*float32{&w.X, &w.Y, &w.W, &w.H, &w.Soft}
}

func isPlace(x, y int) bool {
	return x >= -api.MaxPlace && x <= api.MaxPlace && y >= -api.MaxPlace && y <= api.MaxPlace
}

// CheckWindow is described in doc/06-key.md.
func CheckWindow(w api.Window) api.Errno {
	switch {
	case w.Kind < api.WindowBox || w.Kind > api.WindowPolygon:
		return api.ErrKind
	case !areNumbers(w.X, w.Y, w.W, w.H, w.Soft):
		return api.ErrForm
	case !areWithin(-api.MaxPlace, api.MaxPlace, w.X, w.Y),
		!areWithin(0, api.MaxPlace, w.W, w.H),
		!areWithin(0, maxSoft, w.Soft),
		!areAsMany(w.Kind, w.Points):
		return api.ErrRange
	case slices.ContainsFunc(w.Points, func(p api.Point) bool { return !isPlace(p.X, p.Y) }):
		return api.ErrPlace
	case isAtOdds(w):
		return api.ErrConflict
	}
	return api.OK
}

// areAsMany says whether there are as many points as windows of the kind have.
func areAsMany(kind int, points []api.Point) bool {
	if kind == api.WindowPolygon {
		return len(points) >= minPoints && len(points) <= maxPoints
	}
	return len(points) == 0
}

// isAtOdds says whether a single of w is at odds with its kind.
func isAtOdds(w api.Window) bool {
	switch w.Kind {
	case api.WindowPolygon:
		return slices.ContainsFunc([]float32{w.X, w.Y, w.W, w.H, w.Soft}, func(v float32) bool { return v != 0 })
	case api.WindowEllipse:
		return w.W == 0 || w.H == 0
	}
	return false
}

// cover is what a window has at places.
type cover func(x, y int) float32

// coverOf returns the cover of a window that has no error.
func coverOf(w api.Window) cover {
	var inner cover
	switch w.Kind {
	case api.WindowBox:
		inner = func(x, y int) float32 { return ofBox(w, float32(x), float32(y)) }
	case api.WindowEllipse:
		inner = func(x, y int) float32 { return ofEllipse(w, float32(x), float32(y)) }
	case api.WindowPolygon:
		inner = func(x, y int) float32 { return ofPolygon(w.Points, x, y) }
	}
	if !w.Out {
		return inner
	}
	return func(x, y int) float32 { return 1 - inner(x, y) }
}

// ofBox is what a box has, but for Out, at a place.
func ofBox(w api.Window, x, y float32) float32 {
	a := magnitude(x-w.X) - w.W
	b := magnitude(y-w.Y) - w.H
	return beyond(max(a, b), w.Soft)
}

// ofEllipse is what an ellipse has, but for Out, at a place.
func ofEllipse(w api.Window, x, y float32) float32 {
	q := length((x-w.X)/w.W, (y-w.Y)/w.H)
	return beyond((q-1)*min(w.W, w.H), w.Soft)
}

// beyond is what a window has at a distance d beyond its edge (at most 0 within
// it).
func beyond(d, soft float32) float32 {
	if d > 0 {
		return fading(d, soft)
	}
	return 1
}

// ofPolygon is what a polygon has, but for Out, at a place.
func ofPolygon(points []api.Point, x, y int) float32 {
	inside := float32(0)
	p := points[len(points)-1]
	for _, q := range points {
		if isCrossed(p, q, x, y) {
			inside = 1 - inside
		}
		p = q
	}
	return inside
}

// isCrossed says whether the edge from p to q is crossed on the way from (x, y)
// to the right.
func isCrossed(p, q api.Point, x, y int) bool {
	if (p.Y > y) == (q.Y > y) {
		return false
	}
	across, along := (x-p.X)*(q.Y-p.Y), (q.X-p.X)*(y-p.Y)
	if q.Y > p.Y {
		return across < along
	}
	return across > along
}

// Window is described in doc/06-key.md.
func Window(w api.Window, x, y int) (float32, api.Errno) {
	if e := CheckWindow(w); e != api.OK {
		return 0, e
	}
	if !isPlace(x, y) {
		return 0, api.ErrPlace
	}
	return coverOf(w)(x, y), api.OK
}

// WindowMatte is described in doc/06-key.md.
func WindowMatte(w api.Window, r api.Region) (api.Matte, api.Errno) {
	if e := CheckWindow(w); e != api.OK {
		return api.Matte{}, e
	}
	if e := frame.CheckRegion(r); e != api.OK {
		return api.Matte{}, e
	}
	covered := coverOf(w)
	m := api.Matte{Region: r, V: make([]float32, 0, r.W*r.H)}
	for y := r.Y; y < r.Y+r.H; y++ {
		for x := r.X; x < r.X+r.W; x++ {
			m.V = append(m.V, covered(x, y))
		}
	}
	return m, api.OK
}
