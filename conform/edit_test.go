package conform_test

import (
	"maps"
	"math"
	"slices"
	"testing"

	"dyehouse/api"
	"dyehouse/conform"
)

// fetched are the parts that P213 asks for, found frame by frame.
func fetched(l api.EditList, handle int) []api.Pull {
	needed := map[string]map[int]bool{}
	need := func(reel string, frame int) {
		for i := frame - handle; i <= frame+handle; i++ {
			if needed[reel] == nil {
				needed[reel] = map[int]bool{}
			}
			if i >= 0 {
				needed[reel][i] = true
			}
		}
	}
	for _, s := range filmOf(l) {
		need(s.Reel, s.Frame)
		if s.From != "" {
			need(s.From, s.FromFrame)
		}
	}
	var pulls []api.Pull
	for _, reel := range slices.Sorted(maps.Keys(needed)) {
		for _, frame := range slices.Sorted(maps.Keys(needed[reel])) {
			if !needed[reel][frame-1] {
				pulls = append(pulls, api.Pull{Reel: reel, In: frame})
			}
			pulls[len(pulls)-1].Out = frame + 1
		}
	}
	return pulls
}

func TestP213EachFrame(t *testing.T) {
	m := mixer{}
	for range 500 {
		l, handle := m.list(m.below(9)), one(&m, 0, 0, 1, 2, m.below(40))
		got, e := conform.Sources(l, handle)
		areList(t, got, e, fetched(l, handle), "Sources", l, handle)
	}
}

func TestP213KnownParts(t *testing.T) {
	cut := func(reel string, in, out, at int) api.Event {
		return api.Event{Reel: reel, Kind: api.EventCut, In: in, Out: out, At: at}
	}
	for _, v := range []struct {
		handle int
		events []api.Event
		want   []api.Pull
	}{
		{3, nil, nil},
		{0, []api.Event{cut("a", 5, 7, 0)}, []api.Pull{{Reel: "a", In: 5, Out: 7}}},
		{1000, []api.Event{cut("a", 999, far, 0)}, []api.Pull{{Reel: "a", In: 0, Out: far + 1000}}},
		{3, []api.Event{cut("a", 2, 3, 0)}, []api.Pull{{Reel: "a", In: 0, Out: 6}}},
		// Parts that touch are one, in any order of events, and also within a longer one.
		{0, []api.Event{cut("a", 5, 7, 0), cut("a", 3, 5, 2)}, []api.Pull{{Reel: "a", In: 3, Out: 7}}},
		{0, []api.Event{cut("a", 5, 7, 0), cut("a", 3, 4, 2)}, []api.Pull{{Reel: "a", In: 3, Out: 4}, {Reel: "a", In: 5, Out: 7}}},
		{1, []api.Event{cut("a", 10, 12, 0), cut("a", 6, 8, 2)}, []api.Pull{{Reel: "a", In: 5, Out: 13}}},
		{0, []api.Event{cut("a", 0, 20, 0), cut("a", 3, 5, 20), cut("a", 20, 22, 22)}, []api.Pull{{Reel: "a", In: 0, Out: 22}}},
		// Reels in the order of their bytes, each for itself.
		{0, []api.Event{cut("b", 0, 5, 0), cut("a", 5, 9, 5), cut("B", 1, 2, 9), cut("a1", 0, 2, 10), cut("-", 4, 5, 12)}, []api.Pull{{Reel: "-", In: 4, Out: 5}, {Reel: "B", In: 1, Out: 2}, {Reel: "a", In: 5, Out: 9}, {Reel: "a1", In: 0, Out: 2}, {Reel: "b", In: 0, Out: 5}}},
		// A dissolve goes on with the source before, also beyond what that had.
		{2, []api.Event{cut("a", 5, 6, 0), {Reel: "b", Kind: api.EventDissolve, Length: 30, In: 4, Out: 40, At: 1}}, []api.Pull{{Reel: "a", In: 3, Out: 38}, {Reel: "b", In: 2, Out: 42}}},
		{0, []api.Event{cut("a", 5, 6, 0), {Reel: "a", Kind: api.EventDissolve, Length: 2, In: 8, Out: 11, At: 1}}, []api.Pull{{Reel: "a", In: 5, Out: 11}}},
	} {
		got, e := conform.Sources(api.EditList{Title: "x", Rate: 24, Events: v.events}, v.handle)
		areList(t, got, e, v.want, v)
	}
}

func TestP213Errors(t *testing.T) {
	for _, handle := range append(badInts(), 1001) {
		l := twoEvents()
		got, e := conform.Sources(l, handle)
		refusedList(t, got, e, api.ErrRange, handle)
		l.Events[1].Kind = 0
		got, e = conform.Sources(l, handle)
		refusedList(t, got, e, api.ErrKind, handle)
	}
	for _, handle := range []int{0, 1000} {
		_, e := conform.Sources(twoEvents(), handle)
		checkError(t, e, api.OK, handle)
	}
}

// isList tells of an edit list that is not want.
func isList(t *testing.T, got api.EditList, e api.Errno, want api.EditList, what ...any) {
	t.Helper()
	if e != api.OK || got.Title != want.Title || got.Rate != want.Rate || !slices.Equal(got.Events, want.Events) {
		t.Errorf("%s: got %v, error %d, want %v", about(what), got, e, want)
	}
}

// refusedEdit tells of an edit list that has not this error, or something beside it.
func refusedEdit(t *testing.T, got api.EditList, e, want api.Errno, what ...any) {
	t.Helper()
	refusedList(t, got.Events, e, want, what...)
	if got.Title != "" || got.Rate != 0 {
		t.Errorf("%s: got %v beside an error", about(what), got)
	}
}

func TestP214Edits(t *testing.T) {
	m := mixer{}
	for range 1000 {
		l := m.list(m.from(1, 6))
		event, by := m.below(len(l.Events)), one(&m, 0, 1, -1, m.from(-9, 9), m.from(-3000, far))
		slipped, trimmed := l, l
		slipped.Events, trimmed.Events = slices.Clone(l.Events), slices.Clone(l.Events)
		slipped.Events[event].In += by
		slipped.Events[event].Out += by
		trimmed.Events[event].Out += by
		for i := range trimmed.Events {
			if i > event {
				trimmed.Events[i].At += by
			}
		}
		for i, want := range []api.EditList{slipped, trimmed} {
			edit := []func(api.EditList, int, int) (api.EditList, api.Errno){conform.Slip, conform.Trim}[i]
			got, e := edit(l, event, by)
			if want2 := conform.CheckList(want); want2 != api.OK {
				refusedEdit(t, got, e, want2, i, l, event, by)
				continue
			}
			isList(t, got, e, want, i, l, event, by)
		}
	}
}

func TestP214ErrorsOfEdits(t *testing.T) {
	edits := []func(api.EditList, int, int) (api.EditList, api.Errno){conform.Slip, conform.Trim}
	for i, edit := range edits {
		for _, event := range append(badInts(), 2) {
			got, e := edit(twoEvents(), event, 0)
			refusedEdit(t, got, e, api.ErrNone, i, event)
			got, e = edit(changed(func(l *api.EditList) { l.Rate = 1 }), event, 0)
			refusedEdit(t, got, e, api.ErrKind, i, event)
			got, e = edit(api.EditList{Title: "x", Rate: 24}, event, 0)
			refusedEdit(t, got, e, api.ErrNone, i, event)
		}
		got, e := edit(api.EditList{Title: "x", Rate: 24}, 0, 0)
		refusedEdit(t, got, e, api.ErrNone, i, "no events")
		// Sums that go round are out of range, too.
		for _, by := range []int{far, -21, math.MaxInt, math.MinInt, math.MaxInt - 10, math.MinInt + 10, math.MaxInt - 20, 1 << 62, -1 << 62} {
			for event := range 2 {
				got, e := edit(twoEvents(), event, by)
				refusedEdit(t, got, e, api.ErrRange, i, event, by)
			}
		}
	}
	for _, v := range []struct {
		trim      bool
		event, by int
		want      api.Errno
	}{
		{false, 0, -10, api.OK}, {false, 0, -11, api.ErrRange}, {false, 1, -1, api.ErrRange}, {false, 1, far - 8, api.OK}, {false, 1, far - 7, api.ErrRange},
		{true, 0, -9, api.OK}, {true, 0, -10, api.ErrRange}, {true, 1, -4, api.OK}, {true, 1, -5, api.ErrConflict}, {true, 1, -8, api.ErrRange},
		{true, 0, far - 20, api.OK}, {true, 0, far - 19, api.ErrRange}, {true, 1, far - 8, api.OK}, {true, 1, far - 7, api.ErrRange},
	} {
		edit := edits[0]
		if v.trim {
			edit = edits[1]
		}
		_, e := edit(twoEvents(), v.event, v.by)
		checkError(t, e, v.want, v)
	}
	// An event behind may get beyond the last frame.
	l := twoEvents()
	l.Events[1].Kind, l.Events[1].Length, l.Events[1].At = api.EventCut, 0, far
	got, e := conform.Trim(l, 0, 1)
	refusedEdit(t, got, e, api.ErrRange, "Trim")
	_, e = conform.Trim(l, 0, -9)
	checkError(t, e, api.OK, "Trim")
}

// comparedFrames are the parts in which two lists differ, found frame by frame.
func comparedFrames(a, b api.EditList) []api.Range {
	var parts []api.Range
	for frame := range max(endOfList(a), endOfList(b)) {
		s, e := conform.At(a, frame)
		u, f := conform.At(b, frame)
		s.Event, u.Event = 0, 0
		if (e == api.OK) == (f == api.OK) && s == u {
			continue
		}
		if n := len(parts); n > 0 && parts[n-1].To == frame {
			parts[n-1].To++
		} else {
			parts = append(parts, api.Range{From: frame, To: frame + 1})
		}
	}
	return parts
}

func TestP214CompareEachFrame(t *testing.T) {
	m := mixer{}
	many := 0
	for range 3000 {
		a := m.list(m.below(6))
		b := m.near(a)
		if m.below(4) == 0 {
			b = m.list(m.below(6))
		}
		want := comparedFrames(a, b)
		got, e := conform.Compare(a, b)
		areList(t, got, e, want, "Compare", a, b)
		got, e = conform.Compare(b, a)
		areList(t, got, e, want, "Compare", b, a)
		if len(want) > 1 {
			many++
		}
	}
	if many < 300 {
		t.Error("only", many, "pairs differ in several parts")
	}
}

func TestP214CompareKnownParts(t *testing.T) {
	l := twoEvents()
	for i, v := range []struct {
		change func(l *api.EditList)
		want   []api.Range
	}{
		{func(l *api.EditList) {}, nil},
		{func(l *api.EditList) { l.Title, l.Rate = "other", 60 }, nil},
		{func(l *api.EditList) { l.Events[0].Reel = "c" }, []api.Range{{From: 5, To: 19}}},
		{func(l *api.EditList) { l.Events[1].In, l.Events[1].Out = 1, 9 }, []api.Range{{From: 15, To: 23}}},
		{func(l *api.EditList) { l.Events[1].Length = 2 }, []api.Range{{From: 15, To: 19}}},
		{func(l *api.EditList) { l.Events[1].Kind, l.Events[1].Length = api.EventCut, 0 }, []api.Range{{From: 15, To: 19}}},
		{func(l *api.EditList) { l.Events = nil }, []api.Range{{From: 5, To: 23}}},
		{func(l *api.EditList) { l.Events = l.Events[:1] }, []api.Range{{From: 15, To: 23}}},
		// The first frame of the film, behind which it is another event, but the same.
		{func(l *api.EditList) {
			l.Events[0] = api.Event{Reel: "a", Kind: api.EventCut, In: 9, Out: 10, At: 4}
			l.Events[1] = api.Event{Reel: "a", Kind: api.EventCut, In: 10, Out: 20, At: 5}
			l.Events = append(l.Events, twoEvents().Events[1])
		}, []api.Range{{From: 4, To: 5}}},
		// The source that fades away has ended one frame before.
		{func(l *api.EditList) {
			l.Events[0].In, l.Events[0].Out, l.Events[0].At = 11, 20, 6
		}, []api.Range{{From: 5, To: 6}}},
		{func(l *api.EditList) { l.Events[1].Out++ }, []api.Range{{From: 23, To: 24}}},
	} {
		got, e := conform.Compare(l, changed(v.change))
		areList(t, got, e, v.want, i)
		got, e = conform.Compare(changed(v.change), l)
		areList(t, got, e, v.want, i)
	}
	none := api.EditList{Title: "x", Rate: 24}
	got, e := conform.Compare(none, none)
	areList(t, got, e, nil, "no events")
}

// Two dissolves may have the same share in one of their frames.
func TestP214CompareShares(t *testing.T) {
	l := api.EditList{Title: "x", Rate: 24, Events: []api.Event{
		{Reel: "a", Kind: api.EventCut, Out: 10},
		{Reel: "b", Kind: api.EventDissolve, Length: 5, In: 10, Out: 30, At: 10},
	}}
	k := api.EditList{Title: "x", Rate: 24, Events: []api.Event{
		{Reel: "a", Kind: api.EventCut, Out: 11},
		{Reel: "b", Kind: api.EventDissolve, Length: 3, In: 11, Out: 30, At: 11},
	}}
	got, e := conform.Compare(l, k)
	areList(t, got, e, []api.Range{{From: 10, To: 12}, {From: 13, To: 15}}, "Compare")
}

// Films are as long as they may be, and no frame is looked at alone.
func TestP214CompareLongFilms(t *testing.T) {
	var a, b api.EditList
	a.Title, a.Rate = "x", 24
	at := 0
	for i := range api.MaxEvents {
		v := api.Event{Reel: "a", Kind: api.EventCut, Out: 33000, At: at}
		if i > 0 {
			v.Kind, v.Length = api.EventDissolve, api.MaxDissolve
		}
		a.Events = append(a.Events, v)
		at += 33000
	}
	b = a
	b.Events = slices.Clone(a.Events)
	b.Events[499].Out = far
	got, e := conform.Compare(a, b)
	areList(t, got, e, []api.Range{{From: 33000 * 500, To: 33000*499 + far}}, "the end")
	b.Events[0].Reel = "c"
	got, e = conform.Compare(a, b)
	areList(t, got, e, []api.Range{{From: 0, To: 33250}, {From: 33000 * 500, To: 33000*499 + far}}, "both ends")
}

func TestP214ErrorsOfCompare(t *testing.T) {
	large := changed(func(l *api.EditList) { l.Events[1].In = -1 })
	named := changed(func(l *api.EditList) { l.Title = "" })
	for _, v := range []struct {
		a, b api.EditList
		want api.Errno
	}{{large, twoEvents(), api.ErrRange}, {twoEvents(), large, api.ErrRange}, {large, named, api.ErrRange}, {named, large, api.ErrName}} {
		got, e := conform.Compare(v.a, v.b)
		refusedList(t, got, e, v.want, v)
	}
}
