package frame

import "dyehouse/api"

// CheckRegion is described in doc/02-frame.md.
func CheckRegion(r api.Region) api.Errno {
	switch {
	case !isSide(r.W) || !isSide(r.H):
		return api.ErrRange
	case r.W*r.H > api.MaxPixels:
		return api.ErrLarge
	case !isPlaced(r.X, r.W) || !isPlaced(r.Y, r.H):
		return api.ErrPlace
	}
	return api.OK
}

// isSide says whether n pixels may be a side.
func isSide(n int) bool { return n >= 1 && n <= api.MaxSide }

// isPlaced says whether a side of n pixels may begin at a coordinate. The sum
// of both could be beyond an int.
func isPlaced(at, n int) bool { return at >= -api.MaxPlace && at <= api.MaxPlace-n }

// Inside is described in doc/02-frame.md.
func Inside(a, b api.Region) bool {
	return a.X >= b.X && a.X+a.W <= b.X+b.W && a.Y >= b.Y && a.Y+a.H <= b.Y+b.H
}

// Common is described in doc/02-frame.md.
func Common(a, b api.Region) (api.Region, bool) {
	left, top := max(a.X, b.X), max(a.Y, b.Y)
	right, bottom := min(a.X+a.W, b.X+b.W), min(a.Y+a.H, b.Y+b.H)
	if left >= right || top >= bottom {
		return api.Region{}, false
	}
	return api.Region{X: left, Y: top, W: right - left, H: bottom - top}, true
}

// Grow is described in doc/02-frame.md.
func Grow(r api.Region, n int) (api.Region, api.Errno) {
	if e := CheckRegion(r); e != api.OK {
		return api.Region{}, e
	}
	if n < -api.MaxSide || n > api.MaxSide {
		return api.Region{}, api.ErrRange
	}
	grown := api.Region{X: r.X - n, Y: r.Y - n, W: r.W + 2*n, H: r.H + 2*n}
	if e := CheckRegion(grown); e != api.OK {
		return api.Region{}, e
	}
	return grown, api.OK
}

// Tiles is described in doc/02-frame.md.
func Tiles(r api.Region, side int) ([]api.Region, api.Errno) {
	if e := CheckRegion(r); e != api.OK {
		return nil, e
	}
	if !isSide(side) {
		return nil, api.ErrRange
	}
	column, _ := divide(r.X, side)
	row, _ := divide(r.Y, side)
	var tiles []api.Region
	for y := row * side; y < r.Y+r.H; y += side {
		for x := column * side; x < r.X+r.W; x += side {
			tile, _ := Common(r, api.Region{X: x, Y: y, W: side, H: side})
			tiles = append(tiles, tile)
		}
	}
	return tiles, api.OK
}

// divide returns a / b for b above 0, rounded down (not towards 0, as Go does),
// and what remains.
func divide(a, b int) (int, int) {
	quotient, rest := a/b, a%b
	if rest < 0 {
		return quotient - 1, rest + b
	}
	return quotient, rest
}

// place is the number of a pixel of r.
func place(r api.Region, x, y int) int { return (y-r.Y)*r.W + x - r.X }
