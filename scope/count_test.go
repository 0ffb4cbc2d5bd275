package scope_test

import (
	"math"
	"testing"

	"dyehouse/api"
	"dyehouse/scope"
)

// wantBin is where v belongs.
func wantBin(b api.Bins, v float32) int {
	switch {
	case v != v:
		return -2
	case v < b.Low:
		return -1
	case !(v < b.High):
		return b.Many
	}
	n := math.Floor(float64(mul(div(sub(v, b.Low), sub(b.High, b.Low)), float32(b.Many))))
	if n >= 0 && n < float64(b.Many) {
		return int(n)
	}
	return b.Many - 1
}

// bins returns bins with bounds of any kind.
func (m *mixer) bins() api.Bins {
	b := api.Bins{Low: m.between(-0.5, 0.5), Many: m.from(1, 1024)}
	b.High = b.Low + m.between(0.25, 2)
	switch m.below(8) {
	case 0:
		b.Many = []int{1, 2, 3, 1023, 1024}[m.below(5)]
	case 1:
		b.High = above(b.Low)
	case 2:
		b.Low, b.High = -greatest, m.between(-1, 1)
	case 3:
		b.Low, b.High = minusZero(), least*float32(m.from(1, 40))
	case 4:
		b.Low, b.High = -greatest, greatest
	case 5:
		b.Low, b.High = 0, 1
	}
	return b
}

// near returns a single at or near an edge of one of these bins.
func (m *mixer) near(b api.Bins) float32 {
	share := float64(m.from(0, b.Many)) / float64(b.Many)
	v := float32(float64(b.Low) + share*(float64(b.High)-float64(b.Low)))
	switch m.below(4) {
	case 0:
		return above(v)
	case 1:
		return below(v)
	case 2:
		return m.wild()
	}
	return v
}

// badBin is bins with the error that they have.
type badBin struct {
	bins  api.Bins
	error api.Errno
}

// badBins are bins of each error, also with those that come behind it.
func badBins() []badBin {
	var l []badBin
	for _, many := range append(badInts(), 0, -1, 1025, 4) {
		for _, v := range noNumbers() {
			l = append(l, badBin{api.Bins{Low: v, High: 1, Many: many}, api.ErrForm}, badBin{api.Bins{Low: 1, High: v, Many: many}, api.ErrForm},
				badBin{api.Bins{Low: v, High: v, Many: many}, api.ErrForm})
		}
		for _, v := range []float32{0, 1, -1, greatest, least} {
			l = append(l, badBin{api.Bins{Low: v, High: v, Many: many}, api.ErrOrder}, badBin{api.Bins{Low: v, High: below(v), Many: many}, api.ErrOrder})
		}
		l = append(l, badBin{api.Bins{Low: minusZero(), Many: many}, api.ErrOrder}, badBin{api.Bins{High: minusZero(), Many: many}, api.ErrOrder},
			badBin{api.Bins{Low: greatest, High: -greatest, Many: many}, api.ErrOrder})
		if many != 4 {
			l = append(l, badBin{api.Bins{High: 1, Many: many}, api.ErrRange}, badBin{api.Bins{High: least, Many: many}, api.ErrRange})
		}
	}
	return l
}

func TestP155CheckBins(t *testing.T) {
	m := mixer{}
	for range 1000 {
		b := m.bins()
		checkError(t, scope.CheckBins(b), api.OK, b)
	}
	for many := 1; many <= 1024; many++ {
		checkError(t, scope.CheckBins(api.Bins{Low: -1, High: 1, Many: many}), api.OK, many)
	}
	for _, c := range badBins() {
		checkError(t, scope.CheckBins(c.bins), c.error, c.bins)
		for _, v := range []float32{0.5, oddNaN(), -infinity()} {
			n, e := scope.Bin(c.bins, v)
			refused(t, n, e, c.error, "Bin", c.bins, v)
		}
	}
}

func TestP155Bin(t *testing.T) {
	m := mixer{}
	for range 100000 {
		b := m.bins()
		v := m.near(b)
		n, e := scope.Bin(b, v)
		if want := wantBin(b, v); n != want || e != api.OK {
			t.Fatalf("Bin of %v among %v: %d, error %d, want %d", v, b, n, e, want)
		}
	}
}

func TestP155BinEdges(t *testing.T) {
	inf := infinity()
	unit, wide := api.Bins{High: 1, Many: 10}, api.Bins{Low: -greatest, High: greatest, Many: 8}
	for _, c := range []struct {
		bins api.Bins
		v    float32
		want int
	}{
		{unit, nan(), -2}, {unit, oddNaN(), -2}, {unit, -nan(), -2},
		{unit, -inf, -1}, {unit, -greatest, -1}, {unit, -least, -1},
		{unit, minusZero(), 0}, {unit, 0, 0}, {unit, least, 0}, {unit, 0.05, 0}, {unit, below(0.1), 0},
		{unit, 0.1, 1}, {unit, 0.5, 5}, {unit, below(0.5), 4}, {unit, 0.95, 9}, {unit, below(1), 9},
		{unit, 1, 10}, {unit, above(1), 10}, {unit, inf, 10},
		{api.Bins{Low: minusZero(), High: 1, Many: 2}, 0, 0}, {api.Bins{Low: -1, High: minusZero(), Many: 2}, 0, 2},
		{api.Bins{Low: 1, High: above(1), Many: 1024}, 1, 0}, {api.Bins{Low: 1, High: above(1), Many: 1024}, above(1), 1024},
		{api.Bins{High: least, Many: 1024}, 0, 0}, {api.Bins{High: 4 * least, Many: 2}, least, 0}, {api.Bins{High: 4 * least, Many: 2}, 2 * least, 1},
		// Rounding would lead to the bin behind the last one.
		{api.Bins{Low: -1, High: 1, Many: 7}, below(1), 6}, {api.Bins{Low: -1, High: 1, Many: 1}, below(1), 0}, {api.Bins{Low: -1, High: 1, Many: 1024}, below(1), 1023},
		// The width is an infinity; at the end what is divided by it is, too.
		{wide, -greatest, 0}, {wide, 0, 0}, {wide, -1, 0}, {wide, 0x1p100, 0}, {wide, below(greatest), 7}, {wide, 0x1p127, 7},
		{wide, greatest, 8}, {wide, inf, 8}, {wide, -inf, -1},
		{api.Bins{Low: -greatest, High: greatest, Many: 1}, below(greatest), 0},
	} {
		if n, e := scope.Bin(c.bins, c.v); n != c.want || e != api.OK {
			t.Errorf("Bin of %v among %v: %d, error %d, want %d", c.v, c.bins, n, e, c.want)
		}
	}
}

// wantCounts are those of values.
func wantCounts(b api.Bins, l []float32) api.Counts {
	c := api.Counts{Bins: make([]int, b.Many)}
	for _, v := range l {
		switch n := wantBin(b, v); {
		case n == -2:
			c.NaN++
		case n == -1:
			c.Below++
		case n == b.Many:
			c.Above++
		default:
			c.Bins[n]++
		}
	}
	return c
}

// checkCounts tells of counts that are not want.
func checkCounts(t *testing.T, got api.Counts, e api.Errno, want api.Counts, what ...any) {
	t.Helper()
	checkInts(t, got.Bins, e, want.Bins, what...)
	if got.Below != want.Below || got.Above != want.Above || got.NaN != want.NaN {
		t.Errorf("%v: got %v, want %v", what, got, want)
	}
}

// refusedCounts tells of counts that are there in spite of an error.
func refusedCounts(t *testing.T, got api.Counts, e, want api.Errno, what ...any) {
	t.Helper()
	refusedList(t, got.Bins, e, want, what...)
	if got.Below != 0 || got.Above != 0 || got.NaN != 0 {
		t.Errorf("%v: got %v beside an error", what, got)
	}
}

// counted returns a frame to be counted.
func (m *mixer) counted() api.Frame {
	return frameOf(m.region(), []func() float32{m.rare, m.wild, m.share, m.any}[m.below(4)])
}

func TestP156Histogram(t *testing.T) {
	m := mixer{}
	for range 2000 {
		f, b := m.counted(), m.bins()
		for channel := range 5 {
			got, e := scope.Histogram(f, channel, b)
			checkCounts(t, got, e, wantCounts(b, valuesOf(f, channel)), "Histogram", f.Region, channel, b)
		}
	}
	f, b := frameOf(api.Region{X: -64, Y: far - 128, W: 128, H: 128}, m.rare), api.Bins{High: 1, Many: 16}
	got, e := scope.Histogram(f, 4, b)
	checkCounts(t, got, e, wantCounts(b, valuesOf(f, 4)), "Histogram")
}

func TestP156HistogramOfSome(t *testing.T) {
	f := api.Frame{Region: api.Region{W: 2, H: 2}, V: []float32{
		0, 0.5, 1, 1, 0.25, 0.5, 0.75, oddNaN(),
		-1, infinity(), 0.5, 1, 0.999, nan(), -infinity(), 0.5,
	}}
	b := api.Bins{High: 1, Many: 4}
	for channel, want := range []api.Counts{
		{Bins: []int{1, 1, 0, 1}, Below: 1},
		{Bins: []int{0, 0, 2, 0}, Above: 1, NaN: 1},
		{Bins: []int{0, 0, 1, 1}, Below: 1, Above: 1},
		{Bins: []int{0, 0, 1, 0}, Above: 2, NaN: 1},
		{Bins: []int{0, 2, 0, 0}, Above: 1, NaN: 1}, // 0.4298, 0.4649, infinity and a NaN
	} {
		got, e := scope.Histogram(f, channel, b)
		checkCounts(t, got, e, want, "channel", channel)
	}
}

// The weights of the luma are told apart by frames of one light.
func TestP156LumaOfLights(t *testing.T) {
	for i, w := range []float32{0.2126, 0.7152, 0.0722, 0} {
		p := api.Pixel{}
		p[i] = 1
		f := api.Frame{Region: api.Region{W: 1, H: 1}, V: p[:]}
		x, e := scope.Extent(f, 4)
		if e != api.OK || x != (api.Extent{Least: w, Greatest: w, Mean: w}) {
			t.Error("Extent of the luma of", p, x, e)
		}
		n := int(w * 1024)
		c, e := scope.Histogram(f, 4, api.Bins{High: 1, Many: 1024})
		if e != api.OK || c.Bins[n] != 1 {
			t.Error("Histogram of the luma of", p, "has nothing at", n, e)
		}
	}
}

func TestP156Wave(t *testing.T) {
	m := mixer{}
	for range 1000 {
		f, b := m.counted(), m.bins()
		for channel := range 5 {
			l := valuesOf(f, channel)
			var want [][]int
			for x := range f.W {
				var column []float32
				for y := range f.H {
					column = append(column, l[y*f.W+x])
				}
				want = append(want, wantCounts(b, column).Bins)
			}
			got, e := scope.Wave(f, channel, b)
			checkTable(t, got, e, want, "Wave", f.Region, channel, b)
		}
	}
}

func TestP156WaveOfSome(t *testing.T) {
	f := row(0, 0.5, 1, -1, nan(), 0.25)
	f.Region = api.Region{X: -1, Y: 5, W: 3, H: 2}
	got, e := scope.Wave(f, 0, api.Bins{High: 1, Many: 2})
	checkTable(t, got, e, [][]int{{1, 0}, {0, 1}, {1, 0}}, "Wave")
	f.Region = api.Region{X: -1, Y: 5, W: 2, H: 3}
	got, e = scope.Wave(f, 0, api.Bins{High: 1, Many: 2})
	checkTable(t, got, e, [][]int{{1, 0}, {1, 1}}, "Wave")
}

func TestP156CountingErrors(t *testing.T) {
	good := api.Bins{High: 1, Many: 4}
	refuse := func(f api.Frame, channel int, b api.Bins, want api.Errno) {
		t.Helper()
		c, e := scope.Histogram(f, channel, b)
		refusedCounts(t, c, e, want, "Histogram", f.Region, channel, b)
		l, e := scope.Wave(f, channel, b)
		refusedList(t, l, e, want, "Wave", f.Region, channel, b)
	}
	for _, c := range badFrames() {
		for _, b := range []api.Bins{good, {}, {Low: oddNaN()}} {
			for _, channel := range []int{0, 3, 4, -1, 5} {
				refuse(c.frame, channel, b, c.error)
			}
		}
	}
	for _, n := range badChannels() {
		for _, b := range []api.Bins{good, {}, {Low: oddNaN()}} {
			refuse(row(1, 2), n, b, api.ErrRange)
		}
	}
	for _, c := range badBins() {
		for channel := range 5 {
			refuse(row(1, 2), channel, c.bins, c.error)
		}
	}
}

// wantSquare is the square of a frame.
func wantSquare(f api.Frame, size int) [][]int {
	square := make([][]int, size)
	for i := range square {
		square[i] = make([]int, size)
	}
	b := api.Bins{Low: -0.5, High: 0.5, Many: size}
	for i := 0; i < len(f.V); i += 4 {
		l := wantLuma(usual(), api.Pixel(f.V[i:i+4]))
		u, v := wantBin(b, mul(sub(f.V[i+2], l), 0.5)), wantBin(b, mul(sub(f.V[i], l), 0.5))
		if u >= 0 && u < size && v >= 0 && v < size {
			square[v][u]++
		}
	}
	return square
}

func TestP156Vector(t *testing.T) {
	m := mixer{}
	for range 2000 {
		f, size := m.counted(), m.from(2, 40)
		got, e := scope.Vector(f, size)
		checkTable(t, got, e, wantSquare(f, size), "Vector", f.Region, size)
	}
	f := frameOf(api.Region{X: 3, Y: -far, W: 64, H: 256}, m.rare)
	for size := 2; size <= 256; size++ {
		got, e := scope.Vector(f, size)
		checkTable(t, got, e, wantSquare(f, size), "Vector", size)
	}
}

// Blue goes to the right, red down; green is opposite to both.
func TestP156VectorOfSome(t *testing.T) {
	for _, c := range []struct {
		p           api.Pixel
		row, column int
	}{
		{api.Pixel{0, 0, 0, 1}, 4, 4}, {api.Pixel{1, 1, 1, 0}, 4, 4}, {api.Pixel{0.25, 0.25, 0.25, nan()}, 4, 4},
		{api.Pixel{1, 0, 0, 1}, 7, 3}, {api.Pixel{0, 1, 0, 1}, 1, 1}, {api.Pixel{0, 0, 1, 1}, 3, 7},
		{api.Pixel{1, 0, 1, 1}, 6, 6}, {api.Pixel{1, 1, 0, 1}, 4, 0}, {api.Pixel{0, 1, 1, 1}, 0, 4},
	} {
		f := api.Frame{Region: api.Region{W: 1, H: 1}, V: c.p[:]}
		got, e := scope.Vector(f, 8)
		want := wantSquare(row(nan()), 8)
		want[c.row][c.column] = 1
		checkTable(t, got, e, want, c)
	}
	// One of both bins is beyond.
	for _, p := range []api.Pixel{{2, 0, 0, 1}, {0, 0, 2, 1}, {0, 1.5, 0, 1}, {-2, 0, 0, 1}, {0, 0, -2, 1}, {infinity(), 0, 0, 1}, {0, 0, infinity(), 1}, {nan(), 0, 0, 1}, {0, nan(), 0, 1}, {0, 0, nan(), 1}} {
		f := api.Frame{Region: api.Region{W: 1, H: 1}, V: p[:]}
		got, e := scope.Vector(f, 8)
		checkTable(t, got, e, wantSquare(row(nan()), 8), p)
	}
}

func TestP156VectorErrors(t *testing.T) {
	sizes := append(badInts(), -1, 0, 1, 257)
	for _, c := range badFrames() {
		for _, n := range append(sizes, 4) {
			got, e := scope.Vector(c.frame, n)
			refusedList(t, got, e, c.error, "Vector", c.frame.Region, n)
		}
	}
	for _, n := range sizes {
		got, e := scope.Vector(row(1, 2), n)
		refusedList(t, got, e, api.ErrRange, "Vector", n)
	}
}
