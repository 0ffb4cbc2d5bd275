package conform_test

import (
	"math"
	"testing"

	"dyehouse/api"
	"dyehouse/conform"
)

// twoEvents is a list with a cut and a dissolve.
func twoEvents() api.EditList {
	return api.EditList{Title: "film", Rate: 25, Events: []api.Event{
		{Reel: "a", Kind: api.EventCut, In: 10, Out: 20, At: 5},
		{Reel: "b", Kind: api.EventDissolve, Length: 4, In: 0, Out: 8, At: 15},
	}}
}

// changed returns twoEvents with a change.
func changed(change func(l *api.EditList)) api.EditList {
	l := twoEvents()
	change(&l)
	return l
}

func TestP211OrderOfErrors(t *testing.T) {
	type l = api.EditList
	var spoilers []spoiler[l]
	add := func(e api.Errno, spoil func(v *l)) { spoilers = append(spoilers, spoiler[l]{e, spoil}) }
	add(api.ErrName, func(v *l) { v.Title = "a b" })
	add(api.ErrKind, func(v *l) { v.Rate = 26 })
	add(api.ErrLarge, func(v *l) {
		for len(v.Events) <= api.MaxEvents {
			v.Events = append(v.Events, api.Event{})
		}
	})
	for n := range 2 {
		add(api.ErrName, func(v *l) { v.Events[n].Reel = "" })
		add(api.ErrKind, func(v *l) { v.Events[n].Kind = 3 })
		add(api.ErrRange, func(v *l) { v.Events[n].Out = far + 1 })
		if n == 1 {
			add(api.ErrOrder, func(v *l) { v.Events[n].At = 14 })
		}
		add(api.ErrConflict, func(v *l) { v.Events[n].Length = -1 })
	}
	checkSpoilers(t, twoEvents, spoilers, conform.CheckList)
}

func TestP211Names(t *testing.T) {
	for _, name := range goodNames() {
		for n := range 2 {
			checkError(t, conform.CheckList(changed(func(l *api.EditList) { l.Title, l.Events[n].Reel = name, name })), api.OK, name)
		}
	}
	for _, name := range badNames() {
		checkError(t, conform.CheckList(changed(func(l *api.EditList) { l.Title = name })), api.ErrName, name)
		for n := range 2 {
			checkError(t, conform.CheckList(changed(func(l *api.EditList) { l.Events[n].Reel = name })), api.ErrName, name)
		}
	}
}

func TestP211RatesAndKinds(t *testing.T) {
	for rate := range rates() {
		checkError(t, conform.CheckList(api.EditList{Title: "x", Rate: rate}), api.OK, rate)
	}
	for _, rate := range badRates() {
		checkError(t, conform.CheckList(changed(func(l *api.EditList) { l.Rate = rate })), api.ErrKind, rate)
	}
	for _, kind := range append(badInts(), 0, 3) {
		for n := range 2 {
			checkError(t, conform.CheckList(changed(func(l *api.EditList) { l.Events[n].Kind = kind })), api.ErrKind, kind)
		}
	}
}

func TestP211ManyEvents(t *testing.T) {
	l := api.EditList{Title: "x", Rate: 24}
	for i := range api.MaxEvents {
		l.Events = append(l.Events, api.Event{Reel: "a", Kind: api.EventCut, Out: 1, At: i})
	}
	checkError(t, conform.CheckList(l), api.OK, "500 events")
	l.Events = append(l.Events, api.Event{Reel: "a", Kind: api.EventCut, Out: 1, At: 500})
	checkError(t, conform.CheckList(l), api.ErrLarge, "501 events")
}

func TestP211Ranges(t *testing.T) {
	for _, v := range []struct {
		in, out, at int
		want        api.Errno
	}{
		{0, 1, 0, api.OK}, {far - 1, far, far, api.OK}, {0, far, far, api.OK}, {0, far, 0, api.OK},
		{-1, 1, 0, api.ErrRange}, {0, 0, 0, api.ErrRange}, {5, 5, 0, api.ErrRange}, {5, 4, 0, api.ErrRange}, {0, -1, 0, api.ErrRange}, {-2, -1, 0, api.ErrRange},
		{0, far + 1, 0, api.ErrRange}, {far, far + 1, 0, api.ErrRange}, {far, far, 0, api.ErrRange}, {0, 1, -1, api.ErrRange}, {0, 1, far + 1, api.ErrRange},
	} {
		l := api.EditList{Title: "x", Rate: 24, Events: []api.Event{{Reel: "a", Kind: api.EventCut, In: v.in, Out: v.out, At: v.at}}}
		checkError(t, conform.CheckList(l), v.want, v)
	}
	for _, n := range badInts() {
		for i, place := range []func(v *api.Event) *int{
			func(v *api.Event) *int { return &v.In }, func(v *api.Event) *int { return &v.Out }, func(v *api.Event) *int { return &v.At },
		} {
			for j := range 2 {
				l := twoEvents()
				*place(&l.Events[j]) = n
				checkError(t, conform.CheckList(l), api.ErrRange, i, j, n)
			}
		}
	}
	for _, v := range []api.Event{{In: math.MinInt, Out: math.MaxInt}, {In: math.MinInt, Out: 1}, {In: -1, Out: math.MaxInt, At: math.MaxInt}} {
		v.Reel, v.Kind = "a", api.EventCut
		checkError(t, conform.CheckList(api.EditList{Title: "x", Rate: 24, Events: []api.Event{v}}), api.ErrRange, v)
	}
}

func TestP211OrderOfEvents(t *testing.T) {
	for at, want := range map[int]api.Errno{0: api.ErrOrder, 5: api.ErrOrder, 14: api.ErrOrder, 15: api.OK, 16: api.OK, 1000: api.OK} {
		l := twoEvents()
		l.Events[1].Kind, l.Events[1].Length, l.Events[1].At = api.EventCut, 0, at
		checkError(t, conform.CheckList(l), want, at)
	}
}

func TestP211Dissolves(t *testing.T) {
	for n, want := range map[int]api.Errno{-1: api.ErrConflict, 0: api.ErrConflict, 1: api.OK, 8: api.OK, 9: api.ErrConflict, 250: api.ErrConflict, math.MaxInt: api.ErrConflict, math.MinInt: api.ErrConflict} {
		checkError(t, conform.CheckList(changed(func(l *api.EditList) { l.Events[1].Length = n })), want, n)
	}
	for n, want := range map[int]api.Errno{249: api.OK, 250: api.OK, 251: api.ErrConflict, 1000: api.ErrConflict} {
		checkError(t, conform.CheckList(changed(func(l *api.EditList) { l.Events[1].Out, l.Events[1].Length = 1000, n })), want, n)
	}
	for n, want := range map[int]api.Errno{8: api.OK, 9: api.ErrConflict, 16: api.ErrConflict} {
		checkError(t, conform.CheckList(changed(func(l *api.EditList) { l.Events[1].In, l.Events[1].Out, l.Events[1].Length = 4, 12, n })), want, n)
	}
	// It begins where the event before ends.
	for at, want := range map[int]api.Errno{14: api.ErrOrder, 16: api.ErrConflict, 17: api.ErrConflict} {
		checkError(t, conform.CheckList(changed(func(l *api.EditList) { l.Events[1].At = at })), want, at)
	}
	// None is before the first one, wherever it begins.
	for _, at := range []int{0, 1, 15} {
		checkError(t, conform.CheckList(changed(func(l *api.EditList) {
			l.Events = l.Events[1:]
			l.Events[0].At = at
		})), api.ErrConflict, at)
	}
	for _, n := range append(badInts(), 1) {
		checkError(t, conform.CheckList(changed(func(l *api.EditList) { l.Events[0].Length = n })), api.ErrConflict, n)
	}
}

// filmOf tells what stands in each frame, as the sentences of P212 do.
func filmOf(l api.EditList) map[int]api.Shot {
	film := map[int]api.Shot{}
	for n, v := range l.Events {
		for i := range v.Out - v.In {
			s := api.Shot{Event: n, Reel: v.Reel, Frame: v.In + i, Share: 1}
			if v.Kind == api.EventDissolve && i < v.Length {
				before := l.Events[n-1]
				s.From, s.FromFrame = before.Reel, before.Out+i
				s.Share = float32(float64(i+1) / float64(v.Length+1))
			}
			film[v.At+i] = s
		}
	}
	return film
}

func TestP212EachFrame(t *testing.T) {
	m := mixer{}
	for range 300 {
		l := m.list(m.below(7))
		film := filmOf(l)
		for frame := range endOfList(l) + 5 {
			s, e := conform.At(l, frame)
			want, found := film[frame]
			if !found {
				refused(t, s, e, api.ErrNone, "frame", frame, l)
				continue
			}
			is(t, s, e, want, "frame", frame, l)
		}
	}
}

func TestP212KnownShots(t *testing.T) {
	l := twoEvents()
	for frame, want := range map[int]api.Shot{
		5: {Reel: "a", Frame: 10, Share: 1}, 14: {Reel: "a", Frame: 19, Share: 1},
		15: {Event: 1, Reel: "b", From: "a", FromFrame: 20, Share: 0.2}, 17: {Event: 1, Reel: "b", Frame: 2, From: "a", FromFrame: 22, Share: 0.6},
		18: {Event: 1, Reel: "b", Frame: 3, From: "a", FromFrame: 23, Share: 0.8}, 19: {Event: 1, Reel: "b", Frame: 4, Share: 1}, 22: {Event: 1, Reel: "b", Frame: 7, Share: 1},
	} {
		s, e := conform.At(l, frame)
		is(t, s, e, want, frame)
	}
	// The longest dissolve, and the last frame that there can be.
	l.Events[1].Out, l.Events[1].Length = 250, 250
	s, e := conform.At(l, 15+249)
	is(t, s, e, api.Shot{Event: 1, Reel: "b", Frame: 249, From: "a", FromFrame: 269, Share: float32(250) / 251}, "the end of a dissolve")
	l.Events = []api.Event{{Reel: "a", Kind: api.EventCut, Out: far, At: far}}
	s, e = conform.At(l, 2*far-1)
	is(t, s, e, api.Shot{Reel: "a", Frame: far - 1, Share: 1}, "the last frame")
}

func TestP212Errors(t *testing.T) {
	l := twoEvents()
	for _, frame := range []int{0, 4, 23, 24, far, 2 * far, math.MaxInt} {
		s, e := conform.At(l, frame)
		refused(t, s, e, api.ErrNone, frame)
	}
	for _, frame := range []int{-1, -5, math.MinInt} {
		s, e := conform.At(l, frame)
		refused(t, s, e, api.ErrRange, frame)
		s, e = conform.At(api.EditList{Title: "x", Rate: 25}, frame)
		refused(t, s, e, api.ErrRange, frame)
		l := twoEvents()
		l.Rate = 0
		s, e = conform.At(l, frame)
		refused(t, s, e, api.ErrKind, frame)
	}
	s, e := conform.At(api.EditList{Title: "x", Rate: 25}, 0)
	refused(t, s, e, api.ErrNone, "no events")
	l.Events[1].Length = 9
	s, e = conform.At(l, 5)
	refused(t, s, e, api.ErrConflict, "a dissolve that is too long")
}
