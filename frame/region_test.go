package frame_test

import (
	"math"
	"slices"
	"testing"

	"dyehouse/api"
	"dyehouse/frame"
)

func TestP20CheckRegion(t *testing.T) {
	for r, want := range badRegions() {
		if e := frame.CheckRegion(r); e != want {
			t.Errorf("CheckRegion of %v: %d, want %d", r, e, want)
		}
	}
	for _, r := range goodRegions() {
		if e := frame.CheckRegion(r); e != api.OK {
			t.Errorf("CheckRegion of %v: %d", r, e)
		}
	}
}

// shared counts the pixels that both have, and finds the region around them.
func shared(a, b api.Region) (api.Region, int) {
	var around api.Region
	n := 0
	for y := a.Y; y < a.Y+a.H; y++ {
		for x := a.X; x < a.X+a.W; x++ {
			if !has(b, x, y) {
				continue
			}
			if n == 0 {
				around.X, around.Y = x, y
			}
			around.W, around.H = x-around.X+1, y-around.Y+1
			n++
		}
	}
	return around, n
}

func TestP20InsideAndCommon(t *testing.T) {
	m := mixer{}
	side := func() (int, int) { return m.below(7) - 3, m.below(5) + 1 }
	pick := func() api.Region {
		x, w := side()
		y, h := side()
		return region(x, y, w, h)
	}
	inside, apart := 0, 0
	for range 20000 {
		a, b := pick(), pick()
		want, n := shared(a, b)
		if got := frame.Inside(a, b); got != (n == a.W*a.H) {
			t.Errorf("Inside(%v, %v): %v", a, b, got)
		}
		if got, some := frame.Common(a, b); got != want || some != (n > 0) {
			t.Errorf("Common(%v, %v): %v %v, want %v", a, b, got, some, want)
		}
		if n == a.W*a.H {
			inside++
		}
		if n == 0 {
			apart++
		}
	}
	if inside == 0 || apart == 0 {
		t.Error("the regions have no variety")
	}
}

func TestP20AnyRegions(t *testing.T) {
	var l []api.Region
	for r := range badRegions() {
		l = append(l, r)
	}
	for _, a := range append(l, goodRegions()...) {
		for _, b := range l {
			frame.Inside(a, b)
			frame.Common(a, b)
		}
	}
}

func TestP20Grow(t *testing.T) {
	const place = api.MaxPlace
	for _, c := range []struct {
		r    api.Region
		n    int
		want api.Region
		e    api.Errno
	}{
		{region(1, 2, 3, 4), 0, region(1, 2, 3, 4), api.OK},
		{region(1, 2, 3, 4), 2, region(-1, 0, 7, 8), api.OK},
		{region(1, 2, 3, 4), -1, region(2, 3, 1, 2), api.OK},
		{region(-5, -6, 1, 1), 60, region(-65, -66, 121, 121), api.OK},
		{region(0, 0, 101, 103), -50, region(50, 50, 1, 3), api.OK},
		{region(place-2, 0, 1, 1), 1, region(place-3, -1, 3, 3), api.OK},
		{region(-place+1, 0, 1, 1), 1, region(-place, -1, 3, 3), api.OK},

		{region(0, 0, 1, 1), 257, api.Region{}, api.ErrRange},
		{region(0, 0, 1, 1), -257, api.Region{}, api.ErrRange},
		{region(0, 0, 1, 1), math.MaxInt, api.Region{}, api.ErrRange},
		{region(0, 0, 1, 1), math.MinInt, api.Region{}, api.ErrRange},
		{region(0, 0, 1, 1), 1 << 62, api.Region{}, api.ErrRange},
		{region(place-1, 0, 1, 1), 257, api.Region{}, api.ErrRange},
		{region(1, 2, 3, 4), 256, api.Region{}, api.ErrRange},
		{region(1, 2, 3, 4), -256, api.Region{}, api.ErrRange},
		{region(1, 2, 3, 4), -2, api.Region{}, api.ErrRange},
		{region(1, 2, 4, 4), -2, api.Region{}, api.ErrRange},
		{region(0, 0, 256, 64), 1, api.Region{}, api.ErrRange},
		{region(0, 0, 254, 64), 1, api.Region{}, api.ErrLarge},
		{region(place-3, 0, 126, 127), 1, api.Region{}, api.ErrPlace},
		{region(place-127, 0, 127, 127), 1, api.Region{}, api.ErrLarge},
		{region(place-1, 0, 1, 1), 1, api.Region{}, api.ErrPlace},
		{region(0, -place, 1, 1), 1, api.Region{}, api.ErrPlace},
	} {
		if r, e := frame.Grow(c.r, c.n); r != c.want || e != c.e {
			t.Errorf("Grow(%v, %d): %v %d, want %v %d", c.r, c.n, r, e, c.want, c.e)
		}
	}
	for r, want := range badRegions() {
		for _, n := range []int{0, 1, -1, 300, math.MaxInt} {
			if got, e := frame.Grow(r, n); got != (api.Region{}) || e != want {
				t.Errorf("Grow(%v, %d): %v %d, want %d", r, n, got, e, want)
			}
		}
	}
}

// wantTiles goes through all squares near r, and looks for pixels in them.
func wantTiles(r api.Region, side int) []api.Region {
	var l []api.Region
	from := func(n int) int { return (n/side - 1) * side }
	for y := from(r.Y); y < r.Y+r.H; y += side {
		for x := from(r.X); x < r.X+r.W; x += side {
			if part, n := shared(region(x, y, side, side), r); n > 0 {
				l = append(l, part)
			}
		}
	}
	return l
}

func TestP20Tiles(t *testing.T) {
	const place = api.MaxPlace
	for _, r := range []api.Region{
		region(0, 0, 8, 8), region(-3, -5, 7, 11), region(1, 2, 1, 1), region(-1, -1, 2, 2), region(-8, -8, 8, 8), region(5, -20, 13, 9),
		region(place-5, place-3, 5, 3), region(-place, -place, 4, 5),
	} {
		for _, side := range []int{1, 2, 3, 4, 5, 7, 8, 16, 255, 256} {
			l, e := frame.Tiles(r, side)
			if e != api.OK || !slices.Equal(l, wantTiles(r, side)) {
				t.Errorf("Tiles(%v, %d): %v %d", r, side, l, e)
			}
		}
	}
	l, e := frame.Tiles(region(-1, -1, 3, 2), 2)
	if want := []api.Region{region(-1, -1, 1, 1), region(0, -1, 2, 1), region(-1, 0, 1, 1), region(0, 0, 2, 1)}; e != api.OK || !slices.Equal(l, want) {
		t.Errorf("Tiles: %v %d", l, e)
	}
	if l, e := frame.Tiles(region(0, 0, 256, 64), 1); e != api.OK || len(l) != api.MaxPixels || l[256] != region(0, 1, 1, 1) {
		t.Errorf("Tiles of one pixel each: %d %d", len(l), e)
	}
}

func TestP20TilesErrors(t *testing.T) {
	for _, side := range []int{0, -1, 257, math.MinInt, math.MaxInt} {
		if l, e := frame.Tiles(region(0, 0, 2, 2), side); len(l) != 0 || e != api.ErrRange {
			t.Errorf("Tiles of side %d: %v %d", side, l, e)
		}
		for r, want := range badRegions() {
			if l, e := frame.Tiles(r, side); len(l) != 0 || e != want {
				t.Errorf("Tiles(%v, %d): %v %d, want %d", r, side, l, e, want)
			}
		}
	}
}
