package conform

import (
	"cmp"
	"slices"

	"dyehouse/api"
	"dyehouse/num"
)

// maxHandle is the greatest number of frames that are fetched in addition.
const maxHandle = 1000

// Sources is described in doc/10-conform.md.
func Sources(l api.EditList, handle int) ([]api.Pull, api.Errno) {
	if e := CheckList(l); e != api.OK {
		return nil, e
	}
	if !isWithin(handle, 0, maxHandle) {
		return nil, api.ErrRange
	}
	var pulls []api.Pull
	for i, v := range l.Events {
		p := api.Pull{Reel: v.Reel, In: max(v.In-handle, 0), Out: v.Out + handle}
		if i+1 < len(l.Events) {
			p.Out += l.Events[i+1].Length
		}
		pulls = append(pulls, p)
	}
	slices.SortFunc(pulls, func(p, q api.Pull) int {
		return cmp.Or(cmp.Compare(p.Reel, q.Reel), cmp.Compare(p.In, q.In))
	})
	return together(pulls), api.OK
}

// together makes one of parts in order that overlap or touch.
func together(pulls []api.Pull) []api.Pull {
	var l []api.Pull
	for _, p := range pulls {
		last := len(l) - 1
		if last >= 0 && l[last].Reel == p.Reel && p.In <= l[last].Out {
			l[last].Out = max(l[last].Out, p.Out)
		} else {
			l = append(l, p)
		}
	}
	return l
}

// Slip is described in doc/10-conform.md.
func Slip(l api.EditList, event, by int) (api.EditList, api.Errno) {
	return edited(l, event, func(events []api.Event) {
		// A sum that is too great for an int is negative, so it is out of range.
		events[event].In += by
		events[event].Out += by
	})
}

// Trim is described in doc/10-conform.md.
func Trim(l api.EditList, event, by int) (api.EditList, api.Errno) {
	return edited(l, event, func(events []api.Event) {
		events[event].Out += by
		for i := event + 1; i < len(events); i++ {
			events[i].At += by
		}
	})
}

// edited returns a list with a change that begins with an event.
func edited(l api.EditList, event int, change func(events []api.Event)) (api.EditList, api.Errno) {
	if e := CheckList(l); e != api.OK {
		return api.EditList{}, e
	}
	if !isWithin(event, 0, len(l.Events)-1) {
		return api.EditList{}, api.ErrNone
	}
	l.Events = slices.Clone(l.Events)
	change(l.Events)
	if e := CheckList(l); e != api.OK {
		return api.EditList{}, e
	}
	return l, api.OK
}

// Compare is described in doc/10-conform.md.
func Compare(a, b api.EditList) ([]api.Range, api.Errno) {
	for _, l := range []api.EditList{a, b} {
		if e := CheckList(l); e != api.OK {
			return nil, e
		}
	}
	places := append(turns(a.Events), turns(b.Events)...)
	slices.Sort(places)
	var parts []api.Range
	for i := 1; i < len(places); i++ {
		from, to := places[i-1], places[i]
		if from == to || !differ(a.Events, b.Events, from) {
			continue
		}
		if last := len(parts) - 1; last >= 0 && parts[last].To == from {
			parts[last].To = to
		} else {
			parts = append(parts, api.Range{From: from, To: to})
		}
	}
	return parts, api.OK
}

// turns are the frames of the film at which it does not just go on: if two films
// are alike in one frame, they are so up to the next turn of either.
func turns(l []api.Event) []int {
	var places []int
	for _, v := range l {
		// In a dissolve, each frame has a share of its own.
		for i := range v.Length + 1 {
			places = append(places, v.At+i)
		}
		places = append(places, endOf(v))
	}
	return places
}

// differ says whether the films of two lists differ in a frame.
func differ(a, b []api.Event, frame int) bool {
	s, hasA := shotAt(a, frame)
	t, hasB := shotAt(b, frame)
	return hasA != hasB || s.Reel != t.Reel || s.Frame != t.Frame || s.From != t.From || s.FromFrame != t.FromFrame ||
		num.Bits(s.Share) != num.Bits(t.Share)
}
