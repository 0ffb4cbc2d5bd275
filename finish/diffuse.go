package finish

import (
	"dyehouse/api"
	"dyehouse/frame"
)

// losses are the errors that the pixels of a row have got from others. There is
// one more at each end, for what leaves the frame.
type losses [][colours]float32

func noLosses(w int) losses { return make(losses, w+2) }

// of returns the errors of the pixel in a column.
func (l losses) of(column int) *[colours]float32 { return &l[column+1] }

// add adds sixteenths of e to the error of a pixel. The conversion keeps the
// quotient, which may be made by a product, from being fused with the sum.
func (l losses) add(column, channel int, e, sixteenths float32) {
	l.of(column)[channel] += float32(e * sixteenths / 16)
}

// Diffuse is described in doc/07-finish.md.
func Diffuse(f api.Frame, depth int) ([]int, api.Errno) {
	if e := frame.Check(f); e != api.OK {
		return nil, e
	}
	if !isDepth(depth) {
		return nil, api.ErrRange
	}
	l := make([]int, 0, len(f.V))
	for here := noLosses(f.W); len(l) < len(f.V); {
		below := noLosses(f.W)
		for column := range f.W {
			p, _ := frame.Take(f.V[len(l):])
			n := diffused(p, column, here, below, depth)
			l = append(l, n[:]...)
		}
		here = below
	}
	return l, api.OK
}

// diffused returns the levels of a pixel, and hands on what they lose.
func diffused(p api.Pixel, column int, here, below losses, depth int) [channels]int {
	var l [channels]int
	for channel, got := range here.of(column) {
		n, e := lossy(p[channel]+got, depth)
		here.add(column+1, channel, e, 7)
		below.add(column-1, channel, e, 3)
		below.add(column, channel, e, 5)
		below.add(column+1, channel, e, 1)
		l[channel] = n
	}
	l[colours], _ = lossy(p[colours], depth)
	return l
}

// lossy returns the level of a value, and what it loses.
func lossy(v float32, depth int) (int, float32) {
	n, _ := Level(v, 0, depth)
	kept, _ := Value(n, depth)
	if lost := v - kept; areNumbers(lost) {
		return n, lost
	}
	return n, 0
}
