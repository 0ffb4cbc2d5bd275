package conform

import (
	"sort"

	"dyehouse/api"
)

// CheckList is described in doc/10-conform.md.
func CheckList(l api.EditList) api.Errno {
	_, known := ofSecond(l.Rate)
	switch {
	case !isName(l.Title):
		return api.ErrName
	case !known:
		return api.ErrKind
	case len(l.Events) > api.MaxEvents:
		return api.ErrLarge
	}
	end := -1 // no frame: a dissolve has nothing to begin with
	for _, v := range l.Events {
		if e := checkEvent(v, end); e != api.OK {
			return e
		}
		end = endOf(v)
	}
	return api.OK
}

// checkEvent is the error of an event behind one that has that end.
func checkEvent(v api.Event, end int) api.Errno {
	switch {
	case !isName(v.Reel):
		return api.ErrName
	case v.Kind != api.EventCut && v.Kind != api.EventDissolve:
		return api.ErrKind
	case v.In < 0, v.Out <= v.In, v.Out > maxFrame, !isWithin(v.At, 0, maxFrame):
		return api.ErrRange
	case v.At < end:
		return api.ErrOrder
	case v.Kind == api.EventCut && v.Length != 0:
		return api.ErrConflict
	case v.Kind == api.EventDissolve && (v.At != end || !isWithin(v.Length, 1, min(v.Out-v.In, api.MaxDissolve))):
		return api.ErrConflict
	}
	return api.OK
}

// endOf is the frame of the film that is behind an event.
func endOf(v api.Event) int { return v.At + v.Out - v.In }

// At is described in doc/10-conform.md.
func At(l api.EditList, frame int) (api.Shot, api.Errno) {
	if e := CheckList(l); e != api.OK {
		return api.Shot{}, e
	}
	if frame < 0 {
		return api.Shot{}, api.ErrRange
	}
	s, found := shotAt(l.Events, frame)
	if !found {
		return api.Shot{}, api.ErrNone
	}
	return s, api.OK
}

// shotAt tells what events without errors have in a frame, if one has it.
func shotAt(l []api.Event, frame int) (api.Shot, bool) {
	n := sort.Search(len(l), func(i int) bool { return l[i].At > frame }) - 1
	if n < 0 || frame >= endOf(l[n]) {
		return api.Shot{}, false
	}
	v := l[n]
	place := frame - v.At
	s := api.Shot{Event: n, Reel: v.Reel, Frame: v.In + place, Share: 1}
	if place < v.Length {
		from := l[n-1]
		s.From, s.FromFrame = from.Reel, from.In+frame-from.At
		s.Share = float32(place+1) / float32(v.Length+1)
	}
	return s, true
}
