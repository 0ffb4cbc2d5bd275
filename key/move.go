package key

import (
	"slices"

	"dyehouse/api"
	"dyehouse/num"
)

// Bounds of key frames.
const (
	maxFrames = 100
	lastFrame = 1 << 24
)

// copied returns w with memory of its own.
func copied(w api.Window) api.Window {
	w.Points = slices.Clone(w.Points)
	return w
}

// areAlike says whether one window can become the other one.
func areAlike(a, b api.Window) bool {
	return a.Kind == b.Kind && a.Out == b.Out && len(a.Points) == len(b.Points)
}

// CheckFrames is described in doc/06-key.md.
func CheckFrames(l []api.KeyFrame) api.Errno {
	if len(l) == 0 {
		return api.ErrEmpty
	}
	if len(l) > maxFrames {
		return api.ErrLarge
	}
	for i, k := range l {
		if e := checkFrame(k); e != api.OK {
			return e
		}
		if i > 0 && k.Frame <= l[i-1].Frame {
			return api.ErrOrder
		}
		if !areAlike(k.Window, l[0].Window) {
			return api.ErrConflict
		}
	}
	return api.OK
}

// checkFrame is the error of one key frame alone.
func checkFrame(k api.KeyFrame) api.Errno {
	switch {
	case k.Frame < 0 || k.Frame > lastFrame:
		return api.ErrRange
	case k.Ease < api.EaseHold || k.Ease > api.EaseSmooth:
		return api.ErrKind
	}
	return CheckWindow(k.Window)
}

// Between is described in doc/06-key.md.
func Between(l []api.KeyFrame, frame int) (api.Window, api.Errno) {
	if e := CheckFrames(l); e != api.OK {
		return api.Window{}, e
	}
	behind := slices.IndexFunc(l, func(k api.KeyFrame) bool { return k.Frame >= frame })
	switch {
	case behind < 0:
		return copied(l[len(l)-1].Window), api.OK
	case behind == 0 || l[behind].Frame == frame:
		return copied(l[behind].Window), api.OK
	}
	a, b := l[behind-1], l[behind]
	return mixed(a.Window, b.Window, eased(a, b, frame)), api.OK
}

// eased is how far, at a frame between both, a has become b.
func eased(a, b api.KeyFrame, frame int) float32 {
	t := float32(frame-a.Frame) / float32(b.Frame-a.Frame)
	switch a.Ease {
	case api.EaseHold:
		return 0
	case api.EaseSmooth:
		return num.Smooth(t)
	}
	return t
}

// mixed returns the mixture of two windows that are alike.
func mixed(a, b api.Window, t float32) api.Window {
	w := copied(a)
	others := singles(&b)
	for i, v := range singles(&w) {
		*v = num.Lerp(*v, *others[i], t)
	}
	between := func(from, to int) int {
		n, _, _ := num.Near(num.Lerp(float32(from), float32(to), t), -api.MaxPlace, api.MaxPlace)
		return n
	}
	for i, p := range w.Points {
		q := b.Points[i]
		w.Points[i] = api.Point{X: between(p.X, q.X), Y: between(p.Y, q.Y)}
	}
	return w
}

// Moved is described in doc/06-key.md.
func Moved(w api.Window, dx, dy int) (api.Window, api.Errno) {
	if e := CheckWindow(w); e != api.OK {
		return api.Window{}, e
	}
	if !isPlace(dx, dy) {
		return api.Window{}, api.ErrRange
	}
	w = copied(w)
	if w.Kind != api.WindowPolygon {
		w.X += float32(dx)
		w.Y += float32(dy)
	}
	for i, p := range w.Points {
		w.Points[i] = api.Point{X: p.X + dx, Y: p.Y + dy}
	}
	if e := CheckWindow(w); e != api.OK {
		return api.Window{}, e
	}
	return w, api.OK
}
