package grade_test

import (
	"math"
	"slices"
	"testing"

	"dyehouse/api"
	"dyehouse/grade"
)

func linear(points ...float32) api.Curve { return through(api.CurveLinear, points...) }

func smooth(points ...float32) api.Curve { return through(api.CurveSmooth, points...) }

// through returns the curve with the points x, y, x, y and so on.
func through(kind int, points ...float32) api.Curve {
	c := api.Curve{Kind: kind}
	for i := 0; i < len(points); i += 2 {
		c.X, c.Y = append(c.X, points[i]), append(c.Y, points[i+1])
	}
	return c
}

// badCurve is a curve with the error that it has.
type badCurve struct {
	curve api.Curve
	error api.Errno
}

// badCurves are curves of each error of CheckCurve.
func badCurves() []badCurve {
	l := []badCurve{
		{api.Curve{Kind: 1}, api.ErrForm}, {api.Curve{Kind: 2, X: []float32{}, Y: []float32{}}, api.ErrForm}, {linear(1, 2), api.ErrForm},
		{api.Curve{Kind: 1, X: []float32{0, 1}}, api.ErrForm}, {api.Curve{Kind: 1, Y: []float32{0, 1}}, api.ErrForm},
		{api.Curve{Kind: 2, X: []float32{0, 1, 2}, Y: []float32{0, 1}}, api.ErrForm}, {api.Curve{Kind: 2, X: []float32{0, 1}, Y: []float32{0, 1, 2}}, api.ErrForm},
		{api.Curve{Kind: 2, X: []float32{1, 0, 2}, Y: []float32{0, 1}}, api.ErrForm},
		{linear(0, 0, 0, 1), api.ErrOrder}, {smooth(0, 0, minusZero(), 1), api.ErrOrder}, {smooth(minusZero(), 0, 0, 1), api.ErrOrder}, {linear(1, 0, 0, 1), api.ErrOrder},
		{smooth(0, 0, 1, 1, 1, 2), api.ErrOrder}, {smooth(0, 0, 1, 1, 0.5, 2, 3, 3), api.ErrOrder}, {linear(0, 0, 1, 1, 2, 2, below(2), 3), api.ErrOrder},
	}
	long := rising(api.CurveLinear, 33)
	l = append(l, badCurve{long, api.ErrForm}, badCurve{api.Curve{Kind: 1, X: long.X[:32], Y: long.Y}, api.ErrForm}, badCurve{api.Curve{Kind: 1, X: long.X, Y: long.Y[:32]}, api.ErrForm})
	for _, kind := range []int{0, -1, 3, math.MinInt, math.MaxInt, 1<<32 + 1} {
		l = append(l, badCurve{through(kind, 0, 0, 1, 1), api.ErrKind}, badCurve{through(kind, 0, 0), api.ErrKind}, badCurve{through(kind, 1, 0, 0, infinity()), api.ErrKind})
	}
	for _, v := range noNumbers() {
		for i := range 6 {
			points := []float32{0, 1, 2, 3, 4, 5}
			points[i] = v
			l = append(l, badCurve{linear(points...), api.ErrForm}, badCurve{smooth(points...), api.ErrForm})
			points = []float32{2, 1, 2, 3, 0, 5} // the form of all comes ahead of the order
			points[i] = v
			l = append(l, badCurve{smooth(points...), api.ErrForm})
		}
	}
	return l
}

// rising returns a curve with n points.
func rising(kind, n int) api.Curve {
	c := api.Curve{Kind: kind}
	for i := range n {
		c.X, c.Y = append(c.X, float32(i)), append(c.Y, float32(i*i))
	}
	return c
}

func TestP67CheckCurve(t *testing.T) {
	for _, c := range []api.Curve{
		linear(0, 0, 1, 1), smooth(0, 0, 1, 1), rising(1, 3), rising(2, 31), rising(1, 32), rising(2, 32), linear(-greatest, greatest, greatest, -greatest),
		smooth(minusZero(), 0, single(1), 0), linear(1, 5, above(1), 5, above(above(1)), 5),
	} {
		checkError(t, grade.CheckCurve(c), api.OK, c)
	}
	for _, c := range badCurves() {
		checkError(t, grade.CheckCurve(c.curve), c.error, c.curve)
		m, e := grade.Slopes(c.curve)
		refused(t, m, e, c.error, "Slopes", c.curve)
		v, e := grade.Bend(c.curve, 0.5)
		refused(t, v, e, c.error, "Bend", c.curve)
		l, e := grade.Table(c.curve, infinity(), 0, 0) // the curve's errors come first
		refused(t, l, e, c.error, "Table", c.curve)
	}
}

// wantSlopes are the slopes of a curve.
func wantSlopes(c api.Curve) []float32 {
	n := len(c.X)
	h := func(i int) float32 { return sub(c.X[i+1], c.X[i]) }
	d := func(i int) float32 { return div(sub(c.Y[i+1], c.Y[i]), h(i)) }
	m := []float32{d(0)}
	for i := 1; i < n-1; i++ {
		v := float32(0)
		if d(i-1) < 0 && d(i) < 0 || d(i-1) > 0 && d(i) > 0 {
			w1, w2 := add(mul(2, h(i)), h(i-1)), add(h(i), mul(2, h(i-1)))
			v = div(add(w1, w2), add(div(w1, d(i-1)), div(w2, d(i))))
		}
		m = append(m, v)
	}
	return append(m, d(n-2))
}

// manyCurves are curves of both kinds and of all lengths, some of them with
// slopes that are no numbers.
func manyCurves() []api.Curve {
	m := mixer{}
	var l []api.Curve
	for n := 2; n <= 32; n++ {
		for range 4 {
			l = append(l, m.curve(api.CurveLinear, n), m.curve(api.CurveSmooth, n))
		}
	}
	steep := []float32{-greatest, 1, -greatest / 2, greatest, 0, -greatest, single(1), 0, single(2), greatest, 1, greatest, 2, -greatest, greatest, greatest}
	wide := []float32{-greatest, -greatest, greatest, greatest}
	zeros := []float32{-1, minusZero(), 0, 0, 1, minusZero(), 2, minusZero()}
	for _, points := range [][]float32{steep, steep[4:], steep[:10], wide, zeros} {
		l = append(l, linear(points...), smooth(points...))
	}
	return l
}

func TestP67Slopes(t *testing.T) {
	for _, c := range manyCurves() {
		m, e := grade.Slopes(c)
		checkList(t, m, wantSlopes(c), "Slopes", c)
		checkError(t, e, api.OK, "Slopes", c)
	}
	inf, nan := infinity(), oddNaN()
	for _, c := range []struct {
		curve api.Curve
		want  []float32
	}{
		{linear(0, 1, 2, 5), []float32{2, 2}}, {smooth(0, 1, 2, 1), []float32{0, 0}}, {smooth(0, 0, 1, 1, 2, 0), []float32{1, 0, -1}}, {smooth(0, 0, 1, -1, 2, 0), []float32{-1, 0, 1}},
		{smooth(0, 0, 1, 0, 2, 1), []float32{0, 0, 1}}, {smooth(0, 0, 1, 1, 2, 1), []float32{1, 0, 0}}, {smooth(0, 0, 1, 1, 2, 4), []float32{1, 1.5, 3}}, {smooth(0, 0, 1, -1, 2, -4), []float32{-1, -1.5, -3}},
		{smooth(0, 0, 1, 1, 3, 5), []float32{1, 9.0 / 7, 2}}, {linear(0, 0, 1, 1, 3, 5), []float32{1, 9.0 / 7, 2}}, {smooth(0, 0, 2, 4, 3, 5), []float32{2, 9.0 / 7, 1}},
		{smooth(0, 0, single(1), 1, 1, 2), []float32{inf, 3, 1}}, {smooth(0, -greatest, single(1), 0, 1, greatest), []float32{inf, inf, greatest}},
		{linear(-greatest, -greatest, greatest, greatest), []float32{nan, nan}}, {smooth(-greatest, -greatest, 0, 0, greatest, greatest), []float32{1, nan, 1}},
		{smooth(-greatest, -greatest, greatest/2, greatest, greatest, greatest), []float32{nan, 0, 0}},
		{smooth(0, minusZero(), 1, 0, 2, minusZero()), []float32{0, 0, minusZero()}},
		// One is 0, and what would be made of it is not.
		{smooth(0, 0, 1, minusZero(), 2, -1), []float32{minusZero(), 0, -1}}, {smooth(0, 1, 1, 0, 2, minusZero()), []float32{-1, 0, minusZero()}},
		{smooth(-greatest, 0, 0, 0, greatest, greatest), []float32{0, 0, 1}}, {smooth(-greatest, -greatest, 0, 0, greatest, 0), []float32{1, 0, 0}},
	} {
		m, e := grade.Slopes(c.curve)
		checkList(t, m, c.want, "Slopes", c.curve)
		checkError(t, e, api.OK, "Slopes", c.curve)
	}
}

// wantBend is the value of a curve at v.
func wantBend(c api.Curve, v float32) float32 {
	m, last := wantSlopes(c), len(c.X)-1
	if !(v > c.X[0]) { // also NaNs
		return add(c.Y[0], mul(sub(v, c.X[0]), m[0]))
	}
	if v >= c.X[last] {
		return add(c.Y[last], mul(sub(v, c.X[last]), m[last]))
	}
	i := 0
	for v >= c.X[i+1] {
		i++
	}
	if v == c.X[i] {
		return c.Y[i]
	}
	h := sub(c.X[i+1], c.X[i])
	t := div(sub(v, c.X[i]), h)
	u := sub(1, t)
	if c.Kind == api.CurveLinear {
		return add(c.Y[i], mul(sub(c.Y[i+1], c.Y[i]), t))
	}
	one := mul(mul(c.Y[i], mul(u, u)), add(1, mul(2, t)))
	two := mul(mul(mul(m[i], h), t), mul(u, u))
	three := mul(mul(c.Y[i+1], mul(t, t)), sub(3, mul(2, t)))
	four := mul(mul(mul(m[i+1], h), mul(t, t)), u)
	return add(add(one, two), sub(three, four))
}

func TestP68Bend(t *testing.T) {
	m := mixer{}
	for _, c := range manyCurves() {
		values := oddities()
		for i, x := range c.X {
			values = append(values, x, above(x), below(x))
			if i > 0 {
				values = append(values, m.between(c.X[i-1], x), m.between(c.X[i-1], x), m.between(c.X[i-1], x))
			}
		}
		for range 10 {
			values = append(values, m.plain())
		}
		for _, v := range values {
			got, e := grade.Bend(c, v)
			check(t, got, wantBend(c, v), "Bend", c, v)
			checkError(t, e, api.OK, "Bend", c, v)
		}
	}
}

func TestP68BendEdges(t *testing.T) {
	zero, inf, nan := minusZero(), infinity(), oddNaN()
	for _, c := range []struct {
		curve   api.Curve
		v, want float32
	}{
		{linear(0, 1, 2, 5), 1, 3}, {linear(0, 1, 2, 5), -1, -1}, {linear(0, 1, 2, 5), 3, 7}, {linear(0, 1, 2, 5), 0, 1}, {linear(0, 1, 2, 5), 2, 5}, {linear(0, 1, 2, 5), nan, nan},
		{linear(0, 1, 2, 5), inf, inf}, {linear(0, 1, 2, 5), -inf, -inf}, {linear(0, 1, 2, 1), inf, nan}, {linear(0, 1, 2, 1), -inf, nan},
		{linear(0, zero, 1, zero, 2, zero), 0, 0}, {linear(0, zero, 1, zero, 2, zero), 1, zero}, {linear(0, zero, 1, zero, 2, zero), 2, 0}, {linear(0, zero, 1, zero, 2, 3), 0.5, 0},
		{linear(0, 0, single(2), greatest, 1, 0), 0, nan}, {linear(0, 0, 1, 0, above(1), greatest), above(1), nan}, // 0 times an infinite slope
		{linear(0, 0, single(2), 4, 1, 0), single(1), 2}, {smooth(0, 0, 1, 1, 2, 4), 1, 1},
		{smooth(0, 0, 1, 1, 2, 4), -2, -2}, {smooth(0, 0, 1, 1, 2, 4), 3, 7}, {smooth(0, 0, 1, 1, 2, 0), 0.5, 0.625}, {smooth(0, 0, 1, 1, 2, 0), 1.5, 0.625}, {smooth(0, 0, 1, 1, 2, 4), 0.5, 0.4375},
		{smooth(0, 0, 1, 0, 2, 1), 0.5, 0}, {smooth(0, 0, 1, 0, 2, 1), 1.5, 0.375}, {smooth(0, 0, 1, 1, 2, 1), 1.75, 1}, {smooth(0, 0, 4, 4, 8, 0), 2, 2.5},
	} {
		got, e := grade.Bend(c.curve, c.v)
		check(t, got, c.want, "Bend", c.curve, c.v)
		checkError(t, e, api.OK, "Bend", c.curve, c.v)
	}
}

func TestP69Table(t *testing.T) {
	m := mixer{}
	for i, c := range manyCurves() {
		low := m.plain()
		high := low + m.between(0.01, 4)
		n := 2 + m.below(40)
		if i%50 == 0 {
			low, high, n = -greatest, greatest, 5 // the places are no numbers
		}
		want := []float32{}
		for k := range n {
			v := add(low, div(mul(sub(high, low), float32(k)), float32(n-1)))
			want = append(want, wantBend(c, v))
		}
		got, e := grade.Table(c, low, high, n)
		checkList(t, got, want, "Table", c, low, high, n)
		checkError(t, e, api.OK, "Table", c, low, high, n)
	}
}

func TestP69TableEdges(t *testing.T) {
	same := linear(0, 0, 1, 1)
	for _, c := range []struct {
		low, high float32
		n         int
		want      []float32
	}{
		{0, 1, 2, []float32{0, 1}}, {-1, 3, 5, []float32{-1, 0, 1, 2, 3}}, {minusZero(), single(1), 2, []float32{0, single(1)}}, {0, greatest, 2, []float32{0, greatest}},
		{0, greatest, 3, []float32{0, greatest / 2, infinity()}}, // the product comes first
	} {
		got, e := grade.Table(same, c.low, c.high, c.n)
		checkList(t, got, c.want, "Table", c)
		checkError(t, e, api.OK, "Table", c)
	}
	got, e := grade.Table(same, 0, 4095, 4096)
	checkError(t, e, api.OK, "the longest table")
	for k, v := range got {
		check(t, v, float32(k), "the longest table")
	}
	if len(got) != 4096 {
		t.Errorf("the longest table: %d", len(got))
	}
	for _, v := range noNumbers() {
		for _, n := range []int{4, 0} { // ErrForm, ErrOrder, ErrRange
			l, e := grade.Table(same, v, 1, n)
			refused(t, l, e, api.ErrForm, "Table", v, n)
			l, e = grade.Table(same, 0, v, n)
			refused(t, l, e, api.ErrForm, "Table", v, n)
		}
	}
	for _, v := range []float32{0, minusZero(), below(0), -1} {
		for _, n := range []int{4, 0} {
			l, e := grade.Table(same, 0, v, n)
			refused(t, l, e, api.ErrOrder, "Table", v, n)
		}
	}
	for _, n := range []int{1, 0, -1, 4097, math.MinInt, math.MaxInt} {
		l, e := grade.Table(same, 0, 1, n)
		refused(t, l, e, api.ErrRange, "Table", n)
	}
}

// wantLookup finds v in a table.
func wantLookup(l []float32, low, high, v float32) float32 {
	if v != v {
		return v
	}
	last := float32(len(l) - 1)
	u := mul(div(sub(v, low), sub(high, low)), last)
	if u >= last {
		return l[len(l)-1]
	}
	if !(u > 0) {
		return l[0]
	}
	i := 0
	for float32(i+1) <= u {
		i++
	}
	if u == float32(i) {
		return l[i]
	}
	return add(l[i], mul(sub(l[i+1], l[i]), sub(u, float32(i))))
}

func TestP69Lookup(t *testing.T) {
	m := mixer{}
	for n := 2; n < 60; n++ {
		var l []float32
		for range n {
			l = append(l, m.wild())
		}
		low := m.plain()
		high := low + m.between(0.01, 4)
		values := append(oddities(), low, high, above(low), below(low), above(high), below(high))
		for k := range n {
			at := add(low, div(mul(sub(high, low), float32(k)), float32(n-1)))
			values = append(values, at, above(at), below(at))
		}
		for range 100 {
			values = append(values, m.between(low, high))
		}
		for _, v := range values {
			got, e := grade.Lookup(l, low, high, v)
			check(t, got, wantLookup(l, low, high, v), "Lookup", l, low, high, v)
			checkError(t, e, api.OK, "Lookup", l, low, high, v)
		}
	}
}

func TestP69LookupEdges(t *testing.T) {
	inf, nan := infinity(), oddNaN()
	l := []float32{5, 7, -1}
	for _, c := range []struct{ low, high, v, want float32 }{
		{0, 1, 0, 5}, {0, 1, minusZero(), 5}, {0, 1, 0.25, 6}, {0, 1, 0.5, 7}, {0, 1, 0.75, 3}, {0, 1, 1, -1}, {0, 1, 2, -1}, {0, 1, -1, 5}, {0, 1, inf, -1}, {0, 1, -inf, 5}, {0, 1, nan, nan},
		{-greatest, greatest, 0, 5}, {-greatest, greatest, greatest, 5}, {-greatest, greatest, inf, 5}, // the quotient is 0 or a NaN
		{0, single(1), single(1), -1}, {-1, 1, 0, 7}, {0, greatest, greatest / 2, 7},
	} {
		got, e := grade.Lookup(l, c.low, c.high, c.v)
		check(t, got, c.want, "Lookup", c)
		checkError(t, e, api.OK, "Lookup", c)
	}
	got, _ := grade.Lookup([]float32{nan, 1, nan}, 0, 1, 0)
	check(t, got, nan, "the first is a NaN")
	got, _ = grade.Lookup([]float32{nan, 1, nan}, 0, 1, 0.5)
	check(t, got, 1, "at a place the next one is not needed")
	got, _ = grade.Lookup([]float32{nan, 1, nan}, 0, 1, 3)
	check(t, got, nan, "the last is a NaN")
}

func TestP69LookupErrors(t *testing.T) {
	nan := oddNaN()
	long := make([]float32, 4096)
	long[4095] = 9
	got, e := grade.Lookup(long, 0, 1, 1)
	check(t, got, 9, "the longest table")
	checkError(t, e, api.OK, "the longest table")
	for _, l := range [][]float32{nil, {}, {1}, make([]float32, 4097)} {
		for _, high := range []float32{1, 0, infinity(), nan} { // ErrRange, ErrForm, ErrOrder
			got, e := grade.Lookup(l, 0, high, 0.5)
			refused(t, got, e, api.ErrRange, "Lookup", len(l), high)
			got, e = grade.Lookup(l, high, high, nan)
			refused(t, got, e, api.ErrRange, "Lookup", len(l), high)
		}
	}
	for _, v := range noNumbers() {
		got, e := grade.Lookup([]float32{1, 2}, v, 1, nan)
		refused(t, got, e, api.ErrForm, "Lookup", v)
		got, e = grade.Lookup([]float32{1, 2}, 0, v, 0.5)
		refused(t, got, e, api.ErrForm, "Lookup", v)
	}
	for _, v := range []float32{0, minusZero(), below(0), -1, -greatest} {
		got, e := grade.Lookup([]float32{1, 2}, 0, v, 0.5)
		refused(t, got, e, api.ErrOrder, "Lookup", v)
		got, e = grade.Lookup([]float32{1, 2}, 0, v, nan)
		refused(t, got, e, api.ErrOrder, "Lookup", v)
	}
}

func TestP67MemoryOfCurves(t *testing.T) {
	c := rising(api.CurveSmooth, 8)
	var changed [3]func() bool
	c.X, changed[0] = spare(c.X)
	c.Y, changed[1] = spare(c.Y)
	table, tableChanged := spare([]float32{1, 2, 4})
	changed[2] = tableChanged
	for range 2 {
		m, _ := grade.Slopes(c)
		checkList(t, m, wantSlopes(c), "Slopes")
		scribble(m)
		l, _ := grade.Table(c, 0, 7, 8)
		checkList(t, l, []float32{0, 1, 4, 9, 16, 25, 36, 49}, "Table")
		scribble(l)
		grade.Bend(c, 2.5)
		grade.Lookup(table, 0, 1, 0.3)
		for i := range changed {
			if changed[i]() {
				t.Fatal("an argument has changed", i)
			}
		}
	}
	if !slices.Equal(table, []float32{1, 2, 4}) {
		t.Error("a table has changed")
	}
}
