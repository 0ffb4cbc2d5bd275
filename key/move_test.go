package key_test

import (
	"math"
	"slices"
	"testing"

	"dyehouse/api"
	"dyehouse/key"
)

const lastFrame = 1 << 24

// keyFrames are windows at frames, each of them eased linearly.
func keyFrames(frames []int, windows ...api.Window) []api.KeyFrame {
	var l []api.KeyFrame
	for i, n := range frames {
		l = append(l, api.KeyFrame{Frame: n, Ease: api.EaseLinear, Window: windows[i%len(windows)]})
	}
	return l
}

// rising are n frames from a first one on.
func rising(from, n int) []int {
	l := make([]int, n)
	for i := range l {
		l[i] = from + i
	}
	return l
}

// badFrameList is a list of key frames with the error that it has.
type badFrameList struct {
	list  []api.KeyFrame
	error api.Errno
}

// badFrameLists are lists of each error of CheckFrames.
func badFrameLists() []badFrameList {
	w := box(1, 2, 3, 4, 5)
	l := []badFrameList{
		{nil, api.ErrEmpty}, {[]api.KeyFrame{}, api.ErrEmpty}, {make([]api.KeyFrame, 101), api.ErrLarge}, {keyFrames(rising(0, 101), w), api.ErrLarge},
		{keyFrames([]int{5, 5}, w), api.ErrOrder}, {keyFrames([]int{5, 4}, w), api.ErrOrder}, {keyFrames([]int{0, lastFrame, lastFrame}, w), api.ErrOrder}, {keyFrames([]int{1, 3, 2}, w), api.ErrOrder},
	}
	put := func(k api.KeyFrame, e api.Errno) {
		good := keyFrames(rising(7, 2), w)
		l = append(l, badFrameList{[]api.KeyFrame{k}, e}, badFrameList{append(good, k), e})
		late := api.KeyFrame{Frame: -1, Window: api.Window{Kind: 9}}
		l = append(l, badFrameList{append(good, k, late), e}) // the first bad one decides
	}
	for _, n := range append(badInts(), -1, lastFrame+1) {
		put(api.KeyFrame{Frame: n, Ease: api.EaseHold, Window: w}, api.ErrRange)
		put(api.KeyFrame{Frame: n, Ease: 9}, api.ErrRange)
	}
	for _, ease := range append(badInts(), 0, -1, 4) {
		put(api.KeyFrame{Frame: 9, Ease: ease, Window: w}, api.ErrKind)
		put(api.KeyFrame{Frame: 3, Ease: ease, Window: w}, api.ErrKind)
		put(api.KeyFrame{Frame: 9, Ease: ease, Window: box(oddNaN(), 0, 0, 0, 0)}, api.ErrKind)
	}
	for _, c := range badWindows() {
		put(api.KeyFrame{Frame: 9, Ease: api.EaseSmooth, Window: c.window}, c.error)
		put(api.KeyFrame{Frame: 3, Ease: api.EaseSmooth, Window: c.window}, c.error)
	}
	for _, pair := range [][2]api.Window{
		{w, outside(w)}, {outside(w), w}, {w, ellipse(1, 2, 3, 4, 5)}, {ellipse(1, 2, 3, 4, 5), w},
		{polygon(many(3)...), polygon(many(4)...)}, {polygon(many(32)...), polygon(many(31)...)}, {polygon(many(3)...), box(0, 0, 0, 0, 0)},
	} {
		list := keyFrames([]int{2, 4}, pair[0], pair[1])
		l = append(l, badFrameList{list, api.ErrConflict}, badFrameList{append(list, api.KeyFrame{Frame: -1}), api.ErrConflict},
			badFrameList{keyFrames([]int{2, 2}, pair[0], pair[1]), api.ErrOrder}, badFrameList{keyFrames([]int{2, 3, 4}, pair[0], pair[0], pair[1]), api.ErrConflict})
	}
	return l
}

func TestP113CheckFrames(t *testing.T) {
	for _, w := range []api.Window{box(1, 2, 3, 4, 5), outside(ellipse(1, 2, 3, 4, 5)), polygon(many(32)...)} {
		for _, frames := range [][]int{{0}, {lastFrame}, {0, lastFrame}, {0, 1}, rising(0, 100), rising(lastFrame-99, 100)} {
			for _, ease := range []int{api.EaseHold, api.EaseLinear, api.EaseSmooth} {
				l := keyFrames(frames, w)
				l[0].Ease = ease
				checkError(t, key.CheckFrames(l), api.OK, "CheckFrames", w, len(frames), ease)
			}
		}
	}
	for i, c := range badFrameLists() {
		checkError(t, key.CheckFrames(c.list), c.error, "CheckFrames", i, c.list)
		for _, frame := range []int{0, 3, 8, math.MaxInt, math.MinInt} {
			w, e := key.Between(c.list, frame)
			refusedWindow(t, w, e, c.error, "Between", i, c.list)
		}
	}
}

// wantBetween is the window of a frame.
func wantBetween(l []api.KeyFrame, frame int) api.Window {
	if frame < l[0].Frame {
		return l[0].Window
	}
	for i, k := range l {
		if k.Frame == frame || i == len(l)-1 {
			return k.Window
		}
		if frame < l[i+1].Frame {
			return wantMixed(k, l[i+1], frame)
		}
	}
	return api.Window{}
}

// wantMixed is the window of a frame between a and b.
func wantMixed(a, b api.KeyFrame, frame int) api.Window {
	s := div(float32(frame-a.Frame), float32(b.Frame-a.Frame))
	switch a.Ease {
	case api.EaseHold:
		s = 0
	case api.EaseSmooth:
		s = mul(mul(s, s), sub(3, mul(2, s)))
	}
	v, w := a.Window, b.Window
	mixed := api.Window{
		Kind: v.Kind, Out: v.Out, X: wantLerp(v.X, w.X, s), Y: wantLerp(v.Y, w.Y, s),
		W: wantLerp(v.W, w.W, s), H: wantLerp(v.H, w.H, s), Soft: wantLerp(v.Soft, w.Soft, s),
	}
	near := func(a, b int) int { return int(math.RoundToEven(float64(wantLerp(float32(a), float32(b), s)))) }
	for i, p := range v.Points {
		mixed.Points = append(mixed.Points, api.Point{X: near(p.X, w.Points[i].X), Y: near(p.Y, w.Points[i].Y)})
	}
	return mixed
}

// like returns a window that may follow w in a list of key frames.
func (m *mixer) like(w api.Window) api.Window {
	for {
		v := m.window()
		if v.Kind != w.Kind {
			continue
		}
		v.Out = w.Out
		v.Points = slices.Clone(w.Points)
		for i := range v.Points {
			v.Points[i] = api.Point{X: m.from(-20, 20), Y: m.from(-20, 20)}
			if m.below(4) == 0 {
				v.Points[i] = api.Point{X: m.from(-far, far), Y: []int{-far, far}[m.below(2)]}
			}
		}
		if v.Kind != api.WindowPolygon && m.below(4) == 0 {
			ends := []float32{-far, far, minusZero(), 0}
			v.X, v.Y = ends[m.below(4)], ends[m.below(4)]
			v.W, v.Soft = []float32{far, least, below(far), 1}[m.below(4)], []float32{4096, minusZero(), least}[m.below(3)]
		}
		return v
	}
}

func TestP113BetweenOfAll(t *testing.T) {
	m := mixer{}
	for range 3000 {
		w := m.window()
		frame := m.below(9)
		var l []api.KeyFrame
		for range m.from(1, 5) {
			l = append(l, api.KeyFrame{Frame: frame, Ease: m.from(1, 3), Window: m.like(w)})
			frame += []int{1, 2, 3, 10, 1000003}[m.below(5)]
		}
		for _, n := range []int{m.from(0, 40), m.from(0, frame), m.from(0, frame), l[0].Frame - 1, l[len(l)-1].Frame + 1, l[m.below(len(l))].Frame, l[m.below(len(l))].Frame - 1} {
			got, e := key.Between(l, n)
			checkWindow(t, got, e, wantBetween(l, n), "Between", l, n)
			checkError(t, key.CheckWindow(got), api.OK, "what is between", l, n)
		}
	}
}

func TestP113Between(t *testing.T) {
	a, b := box(minusZero(), 8, 2, 0, 4), box(8, minusZero(), 4, 1, 0)
	l := []api.KeyFrame{{Frame: 10, Ease: api.EaseLinear, Window: a}, {Frame: 14, Ease: api.EaseHold, Window: b}, {Frame: 20, Ease: api.EaseSmooth, Window: a}, {Frame: 24, Ease: api.EaseLinear, Window: b}}
	for frame, want := range map[int]api.Window{
		math.MinInt: a, -1: a, 0: a, 9: a, 10: a, 11: box(2, 6, 2.5, 0.25, 3), 12: box(4, 4, 3, 0.5, 2), 13: box(6, 2, 3.5, 0.75, 1), 14: b, 15: b, 19: b, 20: a,
		21: box(1.25, 6.75, 2.3125, 0.15625, 3.375), 22: box(4, 4, 3, 0.5, 2), 23: box(6.75, 1.25, 3.6875, 0.84375, 0.625), 24: b, 25: b, lastFrame + 1: b, math.MaxInt: b,
	} {
		got, e := key.Between(l, frame)
		checkWindow(t, got, e, want, "Between", frame)
	}
	p := polygon(api.Point{}, api.Point{X: -3, Y: 5}, api.Point{X: far, Y: -far})
	q := polygon(api.Point{X: 1, Y: 3}, api.Point{X: -8, Y: -6}, api.Point{X: far - 1, Y: far})
	l = keyFrames([]int{0, 2}, outside(p), outside(q))
	for frame, want := range map[int]api.Window{
		0: p, 2: q, -5: p, 7: q,
		1: polygon(api.Point{X: 0, Y: 2}, api.Point{X: -6, Y: 0}, api.Point{X: far, Y: 0}), // halves are rounded to even ones
	} {
		got, e := key.Between(l, frame)
		checkWindow(t, got, e, outside(want), "Between", frame)
	}
	// The differences of frames are taken as integers.
	l = keyFrames([]int{lastFrame - 3, lastFrame}, box(0, 0, 0, 0, 0), box(3, 0, 0, 0, 0))
	got, e := key.Between(l, lastFrame-1)
	checkWindow(t, got, e, box(mul(3, div(2, 3)), 0, 0, 0, 0), "Between")
	l = keyFrames([]int{0, lastFrame}, box(0, 0, 0, 0, 0), box(1, 0, 0, 0, 0))
	got, e = key.Between(l, lastFrame-1)
	checkWindow(t, got, e, box(1-0x1p-24, 0, 0, 0, 0), "Between")
}

func TestP113Moved(t *testing.T) {
	m := mixer{}
	for range 3000 {
		w := m.window()
		dx, dy := m.from(-99, 99), m.from(-99, 99)
		if m.below(4) == 0 {
			dx, dy = m.from(-far+20, far-20), []int{-far + 20, far - 20, 0}[m.below(3)]
		}
		want := w
		want.Points = nil
		if w.Kind != api.WindowPolygon {
			want.X, want.Y = add(w.X, float32(dx)), add(w.Y, float32(dy))
		}
		for _, p := range w.Points {
			want.Points = append(want.Points, api.Point{X: p.X + dx, Y: p.Y + dy})
		}
		got, e := key.Moved(w, dx, dy)
		checkWindow(t, got, e, want, "Moved", w, dx, dy)
	}
	corners := polygon(api.Point{X: -far, Y: -far}, api.Point{X: -far, Y: 5}, api.Point{X: 0, Y: 0})
	for _, c := range []struct {
		window api.Window
		dx, dy int
		want   api.Window
	}{
		{box(-far, far, 1, 2, 3), far, -far, box(0, 0, 1, 2, 3)}, {box(0, 0, 1, 2, 3), -far, far, box(-far, far, 1, 2, 3)}, {box(minusZero(), 0.1, 1, 2, 3), 0, 4, box(0, add(0.1, 4), 1, 2, 3)},
		{ellipse(0.5, -0.5, 1, 2, 3), 1, 1, ellipse(1.5, 0.5, 1, 2, 3)}, {outside(box(0, 0, 1, 2, 3)), 1, 0, outside(box(1, 0, 1, 2, 3))}, {box(least, 0, 0, 0, 0), far, 0, box(far, 0, 0, 0, 0)},
		{corners, far, far - 5, polygon(api.Point{X: 0, Y: -5}, api.Point{X: 0, Y: far}, api.Point{X: far, Y: far - 5})},
		{withSingle(corners, 0, minusZero()), 1, 0, withSingle(polygon(api.Point{X: 1 - far, Y: -far}, api.Point{X: 1 - far, Y: 5}, api.Point{X: 1, Y: 0}), 0, minusZero())},
	} {
		got, e := key.Moved(c.window, c.dx, c.dy)
		checkWindow(t, got, e, c.want, "Moved", c)
	}
}

func TestP113MovedErrors(t *testing.T) {
	for _, c := range badWindows() {
		for _, n := range []int{0, far + 1} {
			got, e := key.Moved(c.window, n, 0)
			refusedWindow(t, got, e, c.error, "Moved", c.window)
		}
	}
	right, low := api.Point{X: far}, api.Point{Y: -far}
	for _, w := range []api.Window{box(far, -far, 1, 1, 0), ellipse(far, -far, 1, 1, 0), polygon(right, low, api.Point{})} {
		for _, n := range append(badInts(), far+1, -far-1) {
			for _, d := range [][2]int{{n, 0}, {0, n}, {n, n}, {1, n}} {
				got, e := key.Moved(w, d[0], d[1])
				refusedWindow(t, got, e, api.ErrRange, "Moved", w, d)
			}
		}
		want := api.ErrRange
		if w.Kind == api.WindowPolygon {
			want = api.ErrPlace
		}
		for _, d := range [][2]int{{1, 0}, {0, -1}, {far, 0}, {0, -far}, {1, -1}} {
			got, e := key.Moved(w, d[0], d[1])
			refusedWindow(t, got, e, want, "Moved", w, d)
		}
		_, e := key.Moved(w, -far, far)
		checkError(t, e, api.OK, "Moved", w)
	}
}
