package scope_test

import (
	"testing"

	"dyehouse/api"
	"dyehouse/frame"
	"dyehouse/scope"
)

// total is the sum of all counts.
func total(c api.Counts) int {
	n := c.Below + c.Above + c.NaN
	for _, many := range c.Bins {
		n += many
	}
	return n
}

func TestP161HistogramCountsEachPixelOnce(t *testing.T) {
	m := mixer{}
	for range 1000 {
		f, b := m.counted(), m.bins()
		for channel := range 5 {
			c, e := scope.Histogram(f, channel, b)
			if e != api.OK || total(c) != f.W*f.H || len(c.Bins) != b.Many {
				t.Error("Histogram has", total(c), "of", f.Region, channel, b, e)
			}
		}
	}
}

func TestP161FrameDiffersFromItselfByNothing(t *testing.T) {
	m := mixer{}
	for range 1000 {
		f := m.counted()
		g, e := frame.Clean(f)
		checkError(t, e, api.OK, "Clean")
		for _, other := range []api.Frame{f, g} {
			peak, at, e := scope.Peak(f, other)
			checkError(t, e, api.OK, "Peak")
			check(t, peak, 0, "Peak", f)
			if at != (api.Point{X: f.X, Y: f.Y}) {
				t.Error("Peak is at", at, "of", f.Region)
			}
			mean, e := scope.Mean(f, other)
			checkError(t, e, api.OK, "Mean")
			check(t, mean, 0, "Mean", f)
			noise, e := scope.Noise(f, other, 1)
			checkError(t, e, api.OK, "Noise")
			check(t, noise, infinity(), "Noise", f)
			steps, e := scope.Steps(f, other)
			want := make([]int, 34)
			want[0] = len(f.V)
			checkInts(t, steps, e, want, "Steps", f)
			r, many, e := scope.Changed(f, other)
			if r != (api.Region{}) || many != 0 || e != api.OK {
				t.Error("Changed", r, many, e, f)
			}
		}
	}
}

func TestP161ColumnsOfWaveAreHistogram(t *testing.T) {
	m := mixer{}
	for range 1000 {
		f, b := m.counted(), m.bins()
		for channel := range 5 {
			w, e := scope.Wave(f, channel, b)
			sum := make([]int, b.Many)
			for _, column := range w {
				for i, n := range column {
					sum[i] += n
				}
			}
			c, _ := scope.Histogram(f, channel, b)
			checkInts(t, sum, e, c.Bins, "Wave", f.Region, channel, b)
		}
	}
}

// The histograms of the tiles of a frame, together, are that of the frame.
func TestP301HistogramsOfTiles(t *testing.T) {
	m := mixer{}
	for range 1000 {
		f, b := m.counted(), m.bins()
		tiles, e := frame.Tiles(f.Region, m.from(1, 12))
		checkError(t, e, api.OK, "Tiles")
		for channel := range 5 {
			sum := api.Counts{Bins: make([]int, b.Many)}
			for _, r := range tiles {
				part, e := frame.Cut(f, r)
				checkError(t, e, api.OK, "Cut")
				c, e := scope.Histogram(part, channel, b)
				checkError(t, e, api.OK, "Histogram")
				sum.Below, sum.Above, sum.NaN = sum.Below+c.Below, sum.Above+c.Above, sum.NaN+c.NaN
				for i, n := range c.Bins {
					sum.Bins[i] += n
				}
			}
			got, e := scope.Histogram(f, channel, b)
			checkCounts(t, got, e, sum, "Histogram", f.Region, channel, b)
		}
	}
}
