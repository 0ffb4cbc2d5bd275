package key_test

import (
	"math/big"
	"testing"

	"dyehouse/api"
	"dyehouse/frame"
	"dyehouse/key"
)

func box(x, y, w, h, soft float32) api.Window {
	return api.Window{Kind: api.WindowBox, X: x, Y: y, W: w, H: h, Soft: soft}
}

func ellipse(x, y, w, h, soft float32) api.Window {
	return api.Window{Kind: api.WindowEllipse, X: x, Y: y, W: w, H: h, Soft: soft}
}

func polygon(points ...api.Point) api.Window {
	return api.Window{Kind: api.WindowPolygon, Points: points}
}

func outside(w api.Window) api.Window {
	w.Out = true
	return w
}

// window returns a window without errors, of any kind.
func (m *mixer) window() api.Window {
	w := api.Window{Kind: m.from(1, 3), Out: m.below(2) == 0}
	if w.Kind == api.WindowPolygon {
		for range m.from(3, 8) {
			w.Points = append(w.Points, api.Point{X: m.from(-20, 20), Y: m.from(-20, 20)})
		}
		return w
	}
	w.X, w.Y, w.W, w.H, w.Soft = m.between(-20, 20), m.between(-20, 20), m.between(0.1, 20), m.between(0.1, 20), m.between(0, 20)
	switch m.below(4) {
	case 0:
		w.Soft = 0
	case 1:
		w.X, w.Y, w.W, w.H = float32(m.from(-20, 20)), float32(m.from(-20, 20)), float32(m.from(1, 20)), float32(m.from(1, 20))
	case 2:
		w.W, w.H = []float32{least, 1, far}[m.below(3)], []float32{least, 0x1p-100, far}[m.below(3)]
	}
	return w
}

// region returns a region around the middle of the plane, or far away.
func (m *mixer) region() api.Region {
	r := api.Region{X: m.from(-30, 20), Y: m.from(-30, 20), W: m.from(1, 12), H: m.from(1, 12)}
	if m.below(16) == 0 {
		r.X, r.Y = -far, far-r.H
	}
	return r
}

// many returns n points.
func many(n int) []api.Point {
	l := make([]api.Point, n)
	for i := range l {
		l[i] = api.Point{X: i % 7, Y: i * i % 11}
	}
	return l
}

// badWindow is a window with the error that it has.
type badWindow struct {
	window api.Window
	error  api.Errno
}

// withSingle returns w with v in place of the single with that number.
func withSingle(w api.Window, number int, v float32) api.Window {
	*[]*float32{&w.X, &w.Y, &w.W, &w.H, &w.Soft}[number] = v
	return w
}

// badWindows are windows of each error of CheckWindow, also with those that are
// mentioned later.
func badWindows() []badWindow {
	var l []badWindow
	put := func(w api.Window, e api.Errno) { l = append(l, badWindow{w, e}) }
	good := []api.Window{box(1, 2, 3, 4, 5), ellipse(1, 2, 3, 4, 5), polygon(many(3)...)}
	for _, kind := range append(badInts(), 0, -1, 4) {
		for _, w := range append(good, withSingle(good[0], 0, oddNaN()), api.Window{}) {
			w.Kind = kind
			put(w, api.ErrKind)
		}
	}
	tooMany := good[2]
	tooMany.Points = many(33)
	for _, w := range append(good, tooMany) {
		for number := range 5 {
			for _, v := range noNumbers() {
				put(withSingle(w, number, v), api.ErrForm)
				put(withSingle(withSingle(w, (number+1)%5, 2*far), number, v), api.ErrForm)
			}
			beyond := []float32{above(far), 2 * far, greatest}
			if number == 4 {
				beyond = []float32{above(4096), greatest}
			}
			if number >= 2 {
				beyond = append(beyond, -least, -1)
			} else {
				beyond = append(beyond, below(-far), -greatest)
			}
			for _, v := range beyond {
				put(withSingle(w, number, v), api.ErrRange)
			}
		}
	}
	return append(l, badPoints()...)
}

// badPoints are windows whose points are wrong, or at odds with the rest.
func badPoints() []badWindow {
	var l []badWindow
	put := func(w api.Window, e api.Errno) { l = append(l, badWindow{w, e}) }
	away := append(badInts(), far+1, -far-1)
	for _, n := range []int{0, 1, 2, 33, 100} {
		put(polygon(many(n)...), api.ErrRange)
		put(withSingle(polygon(many(n)...), 0, 1), api.ErrRange)
		if n > 0 {
			p := polygon(many(n)...)
			p.Points[n-1].X = far + 1
			put(p, api.ErrRange)
		}
	}
	for _, n := range []int{1, 3, 32, 33} {
		for _, w := range []api.Window{box(0, 0, 1, 1, 0), ellipse(0, 0, 1, 1, 0), ellipse(0, 0, 0, 0, 0)} {
			w.Points = many(n)
			put(w, api.ErrRange)
			w.Points[0].Y = -far - 1
			put(w, api.ErrRange)
		}
	}
	for _, at := range away {
		for i := range 3 {
			p := polygon(many(3)...)
			p.Points[i].X = at
			put(p, api.ErrPlace)
			put(withSingle(p, 0, 1), api.ErrPlace)
			p = polygon(many(3)...)
			p.Points[i].Y = at
			put(p, api.ErrPlace)
		}
	}
	for number := range 5 {
		for _, v := range []float32{least, 1, 4096} {
			put(withSingle(polygon(many(3)...), number, v), api.ErrConflict)
		}
	}
	put(withSingle(polygon(many(32)...), 0, -least), api.ErrConflict)
	for _, zero := range []float32{0, minusZero()} {
		put(ellipse(0, 0, zero, 1, 0), api.ErrConflict)
		put(ellipse(0, 0, 1, zero, 0), api.ErrConflict)
		put(ellipse(0, 0, zero, zero, 0), api.ErrConflict)
	}
	return l
}

func TestP111CheckWindow(t *testing.T) {
	corners := polygon(api.Point{X: -far, Y: -far}, api.Point{X: far, Y: -far}, api.Point{X: far, Y: far})
	for _, w := range []api.Window{
		box(0, 0, 0, 0, 0), box(far, -far, far, 0, 4096), box(-far, far, 0, far, least), box(0, 0, minusZero(), minusZero(), minusZero()),
		ellipse(0, 0, least, least, 0), ellipse(far, far, far, far, 4096), ellipse(-far, -far, 1, 1, minusZero()),
		polygon(many(3)...), polygon(many(32)...), polygon(make([]api.Point, 3)...), corners, withSingle(withSingle(corners, 0, minusZero()), 4, minusZero()),
	} {
		checkError(t, key.CheckWindow(w), api.OK, w)
		checkError(t, key.CheckWindow(outside(w)), api.OK, w)
	}
	for _, c := range badWindows() {
		checkError(t, key.CheckWindow(c.window), c.error, c.window)
	}
}

// wantBeyond is what boxes and ellipses have at a distance beyond their edge.
func wantBeyond(d, soft float32) float32 {
	switch {
	case !(d > 0):
		return 1
	case d < soft:
		return wantLeft(div(d, soft))
	}
	return 0
}

// wantWindow is what Window returns.
func wantWindow(w api.Window, x, y int) float32 {
	toX, toY := sub(float32(x), w.X), sub(float32(y), w.Y)
	covered := float32(0)
	switch w.Kind {
	case api.WindowBox:
		a, b := sub(abs(toX), w.W), sub(abs(toY), w.H)
		covered = wantBeyond(a, w.Soft)
		if b > a {
			covered = wantBeyond(b, w.Soft)
		}
	case api.WindowEllipse:
		u, v := div(toX, w.W), div(toY, w.H)
		q := root(add(mul(u, u), mul(v, v)))
		radius := w.W
		if w.H < w.W {
			radius = w.H
		}
		covered = wantBeyond(mul(sub(q, 1), radius), w.Soft)
		if !(q > 1) {
			covered = 1
		}
	case api.WindowPolygon:
		for i, p := range w.Points {
			if wantCrossed(p, w.Points[(i+1)%len(w.Points)], x, y) {
				covered = 1 - covered
			}
		}
	}
	if w.Out {
		return sub(1, covered)
	}
	return covered
}

// wantCrossed says whether an edge passes the row y to the right of x: an exact
// fraction tells where.
func wantCrossed(p, q api.Point, x, y int) bool {
	if p.Y > q.Y {
		p, q = q, p
	}
	if y < p.Y || y >= q.Y {
		return false
	}
	at := big.NewRat(int64(q.X-p.X), int64(q.Y-p.Y))
	at.Mul(at, big.NewRat(int64(y-p.Y), 1))
	at.Add(at, big.NewRat(int64(p.X), 1))
	return at.Cmp(big.NewRat(int64(x), 1)) > 0
}

func TestP112Window(t *testing.T) {
	m := mixer{}
	some := 0
	for range 6000 {
		w := m.window()
		x, y := m.from(-50, 50), m.from(-50, 50)
		if m.below(16) == 0 {
			x, y = []int{-far, far}[m.below(2)], m.from(-far, far)
		}
		want := wantWindow(w, x, y)
		if want > 0 && want < 1 {
			some++
		}
		got, e := key.Window(w, x, y)
		check(t, got, want, "Window", w, x, y)
		checkError(t, e, api.OK, "Window", w, x, y)
	}
	if some < 200 {
		t.Error("just", some, "places between 0 and 1")
	}
}

// checkCover tells of a window that has not this at a place, or not 1 less that
// outside.
func checkCover(t *testing.T, w api.Window, x, y int, want float32) {
	t.Helper()
	for _, w := range []api.Window{w, outside(w)} {
		got, e := key.Window(w, x, y)
		check(t, got, want, "Window", w, x, y)
		checkError(t, e, api.OK, "Window", w, x, y)
		want = 1 - want
	}
}

func TestP112BoxAndEllipse(t *testing.T) {
	rim := box(10, 0, 2, 5, 4)
	oval := ellipse(0, 0, 4, 2, 2)
	disc := ellipse(0, 0, 5, 5, 0)
	for _, c := range []struct {
		window api.Window
		x, y   int
		want   float32
	}{
		{rim, 10, 0, 1}, {rim, 12, 5, 1}, {rim, 8, -5, 1}, {rim, 13, 0, 0.84375}, {rim, 14, 0, 0.5}, {rim, 15, 0, 0.15625}, {rim, 16, 0, 0}, {rim, 17, 0, 0}, {rim, 6, 0, 0.5}, {rim, 10, 7, 0.5}, {rim, 10, -7, 0.5}, {rim, 10, 9, 0},
		{rim, 13, 7, 0.5}, {rim, 14, 6, 0.5}, {rim, 14, 7, 0.5}, {rim, 13, 6, 0.84375}, {rim, far, 0, 0}, {rim, -far, far, 0},
		{box(0, 0, 0, 0, 0), 0, 0, 1}, {box(0, 0, 0, 0, 0), 1, 0, 0}, {box(0, 0, 0, 0, 0), 0, -1, 0}, {box(0.5, 0, 0.5, 0, 0), 0, 0, 1}, {box(0.5, 0, 0.5, 0, 0), 1, 0, 1}, {box(0.5, 0, below(0.5), 0, 0), 1, 0, 0},
		{box(0.5, 0, below(0.5), 0, 1), 1, 0, 1}, {box(0, 0, 0, 0, 1), 1, 0, 0}, {box(0, 0, 0, 0, 4096), 2048, -2048, 0.5}, {box(far, far, far, far, 0), 0, 0, 1}, {box(far, far, far, far, 0), -1, 0, 0}, {box(-far, 0, 0, 0, 0), -far, 0, 1},
		{oval, 0, 0, 1}, {oval, 4, 0, 1}, {oval, 0, 2, 1}, {oval, -4, 0, 1}, {oval, 0, -2, 1}, {oval, 6, 0, 0.5}, {oval, 0, 3, 0.5}, {oval, 0, -3, 0.5}, {oval, 8, 0, 0}, {oval, 0, 4, 0},
		{ellipse(0, 0, 2, 4, 2), 0, 6, 0.5}, {ellipse(0, 0, 2, 4, 2), 3, 0, 0.5},
		{disc, 3, 4, 1}, {disc, -4, 3, 1}, {disc, 5, 0, 1}, {disc, 5, 1, 0}, {disc, 4, 4, 0}, {disc, 6, 0, 0},
		{ellipse(0, 0, least, least, 4096), 0, 0, 1}, {ellipse(0, 0, least, least, 4096), 1, 0, 0}, {ellipse(0, 0, far, least, 0), far, 0, 1}, {ellipse(0, 0, 0x1p-60, 0x1p-60, 2), 1, 0, 0.5},
		{ellipse(0, 0, 0x1p-70, 0x1p-70, 2), 1, 0, 0}, {ellipse(0, 0, 4, least, 0), 5, 0, 1}, {ellipse(0, 0, 4, 2*least, 0), 5, 0, 1}, {ellipse(0, 0, 4, 4*least, 0), 5, 0, 0},
	} {
		checkCover(t, c.window, c.x, c.y, c.want)
	}
}

func TestP112Polygon(t *testing.T) {
	const (
		l = -far
		h = far
	)
	square := []api.Point{{X: 0, Y: 0}, {X: 4, Y: 0}, {X: 4, Y: 4}, {X: 0, Y: 4}}
	reverse := []api.Point{{X: 0, Y: 4}, {X: 4, Y: 4}, {X: 4, Y: 0}, {X: 0, Y: 0}}
	bow := []api.Point{{X: 0, Y: 0}, {X: 8, Y: 8}, {X: 8, Y: 0}, {X: 0, Y: 8}}
	twice := append(append([]api.Point{}, square...), square...)
	line := []api.Point{{X: 0, Y: 0}, {X: 4, Y: 4}, {X: 8, Y: 8}}
	all := []api.Point{{X: l, Y: l}, {X: h, Y: l}, {X: h, Y: h}, {X: l, Y: h}}
	flat := []api.Point{{X: l, Y: l}, {X: h, Y: h}, {X: l, Y: l + 1}} // just one place is between its edges
	for _, c := range []struct {
		points []api.Point
		x, y   int
		want   float32
	}{
		{square, 0, 0, 1}, {square, 3, 3, 1}, {square, 3, 0, 1}, {square, 0, 3, 1}, {square, 4, 0, 0}, {square, 0, 4, 0}, {square, 4, 4, 0}, {square, -1, 2, 0}, {square, 2, -1, 0}, {square, 5, 2, 0}, {square, 2, 5, 0},
		{reverse, 0, 0, 1}, {reverse, 3, 3, 1}, {reverse, 4, 0, 0}, {reverse, 0, 4, 0}, {reverse, -1, 2, 0},
		{bow, 1, 3, 1}, {bow, 1, 5, 1}, {bow, 6, 4, 1}, {bow, 4, 1, 0}, {bow, 4, 7, 0}, {bow, 7, 2, 1}, {bow, 8, 2, 0},
		{twice, 2, 2, 0}, {twice, 9, 9, 0}, {line, 2, 2, 0}, {line, 4, 4, 0}, {line, 1, 5, 0},
		{all, l, l, 1}, {all, h - 1, h - 1, 1}, {all, h, 0, 0}, {all, 0, h, 0}, {all, 0, 0, 1}, {make([]api.Point, 3), 0, 0, 0},
		{flat, l, l, 0}, {flat, l, l + 1, 1}, {flat, l + 1, l + 2, 0}, {flat, l + 2, l + 3, 0}, {flat, l + 1, l + 1, 0}, {flat, h - 1, h - 1, 0}, {flat, h, h, 0}, {flat, 0, 0, 0}, {flat, 0, 1, 0},
	} {
		checkCover(t, polygon(c.points...), c.x, c.y, c.want)
		check(t, wantWindow(polygon(c.points...), c.x, c.y), c.want, "what is wanted of", c.points, c.x, c.y)
	}
	m := mixer{}
	for range 3000 {
		w := api.Window{Kind: api.WindowPolygon, Points: make([]api.Point, m.from(3, 32)), Out: m.below(2) == 0}
		reach := []int{2, 9, 300, far}[m.below(4)]
		for i := range w.Points {
			w.Points[i] = api.Point{X: m.from(-reach, reach), Y: m.from(-reach, reach)}
		}
		x, y := m.from(-reach, reach), m.from(-reach, reach)
		got, e := key.Window(w, x, y)
		check(t, got, wantWindow(w, x, y), "Window", w, x, y)
		checkError(t, e, api.OK, "Window", w, x, y)
	}
}

func TestP112WindowErrors(t *testing.T) {
	away := append(badInts(), far+1, -far-1)
	for _, c := range badWindows() {
		for _, x := range []int{0, far + 1} {
			got, e := key.Window(c.window, x, 0)
			refused(t, got, e, c.error, "Window", c.window)
		}
		for _, r := range []api.Region{{W: 1, H: 1}, {}} {
			got, e := key.WindowMatte(c.window, r)
			refusedMatte(t, got, e, c.error, "WindowMatte", c.window)
		}
	}
	for _, w := range []api.Window{box(0, 0, far, far, 0), ellipse(0, 0, far, far, 0), polygon(many(3)...)} {
		for _, w := range []api.Window{w, outside(w)} {
			for _, at := range away {
				for _, p := range [][2]int{{at, 0}, {0, at}, {at, at}} {
					got, e := key.Window(w, p[0], p[1])
					refused(t, got, e, api.ErrPlace, "Window", w, p)
				}
			}
			for _, r := range badRegions() {
				got, e := key.WindowMatte(w, r.Region)
				refusedMatte(t, got, e, r.error, "WindowMatte", r.Region)
			}
		}
	}
}

func TestP112WindowMatte(t *testing.T) {
	m := mixer{}
	for i := range 400 {
		w := m.window()
		r := m.region()
		if i < len(regions()) {
			r = regions()[i]
		}
		var want []float32
		for y := r.Y; y < r.Y+r.H; y++ {
			for x := r.X; x < r.X+r.W; x++ {
				want = append(want, wantWindow(w, x, y))
			}
		}
		got, e := key.WindowMatte(w, r)
		checkMatte(t, got, e, r, want, "WindowMatte", w, r)
	}
	for _, r := range []api.Region{{X: -far, Y: -far, W: 3, H: 3}, {X: far - 3, Y: far - 3, W: 3, H: 3}, {W: 256, H: 64}} {
		got, e := key.WindowMatte(box(0, 0, far, far, 0), r)
		checkMatte(t, got, e, r, listOf(r.W*r.H, func() float32 { return 1 }), "WindowMatte", r)
	}
}

// A window with whole coordinates, moved, covers moved places as it covered them
// before.
func TestP303MovedWindow(t *testing.T) {
	m := mixer{}
	for range 1000 {
		w := m.window()
		w.X, w.Y = float32(int(w.X)), float32(int(w.Y))
		r := m.region()
		dx, dy := m.from(-999, 999), m.from(-999, 999)
		if m.below(4) == 0 {
			dx, dy = m.from(-far/2, far/2), m.from(-far/2, far/2)
		}
		if frame.CheckRegion(api.Region{X: r.X + dx, Y: r.Y + dy, W: r.W, H: r.H}) != api.OK {
			continue
		}
		was, _ := key.WindowMatte(w, r)
		moved, e := key.Moved(w, dx, dy)
		checkError(t, e, api.OK, "Moved", w, dx, dy)
		r.X, r.Y = r.X+dx, r.Y+dy
		is, e := key.WindowMatte(moved, r)
		checkMatte(t, is, e, r, was.V, "WindowMatte of", moved)
	}
}
