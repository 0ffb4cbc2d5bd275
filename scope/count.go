package scope

import (
	"dyehouse/api"
	"dyehouse/frame"
)

// The greatest numbers of bins, also of those on a side of a square.
const (
	maxBins = 1024
	maxSide = 256
)

// Places of what no bin can have, beside the number of bins for what is above.
const (
	placeNaN   = -2
	placeBelow = -1
)

// CheckBins is described in doc/08-scope.md.
func CheckBins(b api.Bins) api.Errno {
	switch {
	case !areNumbers(b.Low, b.High):
		return api.ErrForm
	case b.Low >= b.High:
		return api.ErrOrder
	case !isWithin(b.Many, 1, maxBins):
		return api.ErrRange
	}
	return api.OK
}

// Bin is described in doc/08-scope.md.
func Bin(b api.Bins, v float32) (int, api.Errno) {
	if e := CheckBins(b); e != api.OK {
		return 0, e
	}
	return place(b, v), api.OK
}

// place is where v belongs among bins that have no error.
func place(b api.Bins, v float32) int {
	switch {
	case v != v:
		return placeNaN
	case v < b.Low:
		return placeBelow
	case v >= b.High:
		return b.Many
	}
	n := (v - b.Low) / (b.High - b.Low) * float32(b.Many)
	// Asked in this way, a NaN belongs to the last bin, too.
	if n < float32(b.Many) {
		return int(n)
	}
	return b.Many - 1
}

// isBin says whether the place n is that of a bin.
func isBin(b api.Bins, n int) bool { return isWithin(n, 0, b.Many-1) }

// places are those of all values of a channel.
func places(f api.Frame, channel int, b api.Bins) ([]int, api.Errno) {
	l, e := values(f, channel)
	if e != api.OK {
		return nil, e
	}
	if e := CheckBins(b); e != api.OK {
		return nil, e
	}
	n := make([]int, len(l))
	for i, v := range l {
		n[i] = place(b, v)
	}
	return n, api.OK
}

// table is lists of zeros.
func table(lists, each int) [][]int {
	t := make([][]int, lists)
	for i := range t {
		t[i] = make([]int, each)
	}
	return t
}

// Histogram is described in doc/08-scope.md.
func Histogram(f api.Frame, channel int, b api.Bins) (api.Counts, api.Errno) {
	l, e := places(f, channel, b)
	if e != api.OK {
		return api.Counts{}, e
	}
	c := api.Counts{Bins: make([]int, b.Many)}
	for _, n := range l {
		switch n {
		case placeNaN:
			c.NaN++
		case placeBelow:
			c.Below++
		case b.Many:
			c.Above++
		default:
			c.Bins[n]++
		}
	}
	return c, api.OK
}

// Wave is described in doc/08-scope.md.
func Wave(f api.Frame, channel int, b api.Bins) ([][]int, api.Errno) {
	l, e := places(f, channel, b)
	if e != api.OK {
		return nil, e
	}
	columns := table(f.W, b.Many)
	for i, n := range l {
		if isBin(b, n) {
			columns[i%f.W][n]++
		}
	}
	return columns, api.OK
}

// Vector is described in doc/08-scope.md.
func Vector(f api.Frame, size int) ([][]int, api.Errno) {
	if e := frame.Check(f); e != api.OK {
		return nil, e
	}
	if !isWithin(size, 2, maxSide) {
		return nil, api.ErrRange
	}
	b := api.Bins{Low: -0.5, High: 0.5, Many: size}
	square := table(size, size)
	visit(f, func(_, _ int, p api.Pixel) {
		l := luma(p)
		// The conversions keep the products from being fused with a bin's bounds.
		column, row := place(b, float32((p[2]-l)*0.5)), place(b, float32((p[0]-l)*0.5))
		if isBin(b, column) && isBin(b, row) {
			square[row][column]++
		}
	})
	return square, api.OK
}
