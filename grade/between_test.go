package grade_test

import (
	"testing"

	"dyehouse/api"
	"dyehouse/grade"
	"dyehouse/num"
)

// like returns a grade that can be mixed with g.
func (m *mixer) like(g api.Grade) api.Grade {
	if g.Kind != api.GradeCurves {
		return m.grade(g.Kind)
	}
	for i, c := range g.Curves {
		if len(c.X) > 0 {
			g.Curves[i] = m.curve(c.Kind, len(c.X))
		}
	}
	return g
}

// wantBetween mixes all that two grades may have.
func wantBetween(a, b api.Grade, t float32) api.Grade {
	lerps := func(x, y []float32) []float32 {
		var l []float32
		for i := range x {
			l = append(l, num.Lerp(x[i], y[i], t))
		}
		return l
	}
	three := func(x, y [3]float32) [3]float32 { return [3]float32(lerps(x[:], y[:])) }
	g := api.Grade{
		Kind: a.Kind,
		Wheels: api.Wheels{
			Lift: three(a.Wheels.Lift, b.Wheels.Lift), Gamma: three(a.Wheels.Gamma, b.Wheels.Gamma), Gain: three(a.Wheels.Gain, b.Wheels.Gain),
		},
		CDL: api.CDL{
			Slope: three(a.CDL.Slope, b.CDL.Slope), Offset: three(a.CDL.Offset, b.CDL.Offset), Power: three(a.CDL.Power, b.CDL.Power),
			Saturation: num.Lerp(a.CDL.Saturation, b.CDL.Saturation, t),
		},
		Mixer: api.Mixer{Rows: [12]float32(lerps(a.Mixer.Rows[:], b.Mixer.Rows[:]))},
		Pivot: num.Lerp(a.Pivot, b.Pivot, t), Amount: num.Lerp(a.Amount, b.Amount, t),
	}
	for i := range g.Curves {
		x, y := a.Curves[i], b.Curves[i]
		g.Curves[i] = api.Curve{Kind: x.Kind, X: lerps(x.X, y.X), Y: lerps(x.Y, y.Y)}
	}
	for i := range g.Points {
		g.Points[i], _, _ = num.Near(num.Lerp(float32(a.Points[i]), float32(b.Points[i]), t), 0, 50)
	}
	return g
}

// checkBetween tells of a mixture that is not want.
func checkBetween(t *testing.T, a, b api.Grade, share float32, want api.Grade) {
	t.Helper()
	got, e := grade.Between(a, b, share)
	checkGrades(t, []api.Grade{got}, []api.Grade{want}, "Between", a, b, share)
	checkError(t, e, api.OK, "Between", a, b, share)
}

func TestP72Between(t *testing.T) {
	m := mixer{}
	for i := range 3000 {
		a := m.grade(1 + i%6)
		b := m.like(a)
		for _, share := range []float32{0, minusZero(), 1, 0.5, single(1), below(1), m.between(0, 1)} {
			want := wantBetween(a, b, share)
			if e := grade.CheckGrade(want); e != api.OK { // the mixture of curves may be out of order
				got, f := grade.Between(a, b, share)
				refused(t, got, f, e, "Between", a, b, share)
				continue
			}
			checkBetween(t, a, b, share, want)
		}
	}
}

func TestP72BetweenEdges(t *testing.T) {
	checkBetween(t, contrast(1, 2), contrast(3, -2), 0.25, contrast(1.5, 1))
	checkBetween(t, contrast(1, 2), contrast(3, -2), 0, contrast(1, 2))
	checkBetween(t, contrast(1, 2), contrast(3, -2), 1, contrast(3, -2))
	checkBetween(t, contrast(minusZero(), 2), contrast(3, minusZero()), 1, contrast(3, minusZero()))
	checkBetween(t, contrast(minusZero(), 2), contrast(3, minusZero()), minusZero(), contrast(minusZero(), 2))
	checkBetween(t, printer(0, 10, 50), printer(1, 13, 0), 0.5, printer(0, 12, 25)) // of two equally near ones the even one
	checkBetween(t, printer(1, 50, 0), printer(2, 0, 50), 0.5, printer(2, 25, 25))
	checkBetween(t, printer(0, 50, 7), printer(50, 0, 7), 0.99, printer(50, 0, 7))
	checkBetween(t, printer(0, 50, 7), printer(50, 0, 7), 0.009, printer(0, 50, 7))
	checkBetween(t, curved(), curved(), 0.5, curved())
	a := curved(linear(0, 0, 1, 1), api.Curve{}, smooth(0, 0, 1, 1, 2, 8), api.Curve{})
	b := curved(linear(1, 4, 2, 5), api.Curve{}, smooth(2, 0, 3, 1, 6, 4), api.Curve{})
	checkBetween(t, a, b, 0.5, curved(linear(0.5, 2, 1.5, 3), api.Curve{}, smooth(1, 0, 2, 1, 4, 6), api.Curve{}))
}

// zeroed returns g with zeros of either sign in the singles that it does not
// need.
func (m *mixer) zeroed(g api.Grade) api.Grade {
	zero := func() float32 { return single(m.next() & 0x80000000) }
	var rows api.Mixer
	for i := range rows.Rows {
		rows.Rows[i] = zero()
	}
	plain := api.Grade{
		Kind: g.Kind, Points: g.Points, Curves: g.Curves, Mixer: rows, Pivot: zero(), Amount: zero(),
		Wheels: api.Wheels{Lift: three(zero), Gamma: three(zero), Gain: three(zero)},
		CDL:    api.CDL{Slope: three(zero), Offset: three(zero), Power: three(zero), Saturation: zero()},
	}
	return together(plain, g, g.Kind)
}

// What a grade does not need is zero, but of either sign, and is mixed too.
func TestP72BetweenZeros(t *testing.T) {
	m := mixer{}
	for i := range 300 {
		a := m.zeroed(m.grade(1 + i%6))
		b := m.zeroed(a)
		for _, share := range []float32{0, minusZero(), 1, 0.5, m.between(0, 1)} {
			checkBetween(t, a, b, share, wantBetween(a, b, share))
		}
	}
}

func TestP72BetweenErrors(t *testing.T) {
	good, none := contrast(1, 2), api.Curve{}
	refusal := func(a, b api.Grade, share float32, want api.Errno) {
		t.Helper()
		g, e := grade.Between(a, b, share)
		refused(t, g, e, want, "Between", a, b, share)
	}
	bad, worse := contrast(oddNaN(), 1), printer(99, 0, 0)
	for _, share := range []float32{0.5, -1, 2, oddNaN()} { // the share is looked at behind the grades
		for _, c := range badGrades() {
			refusal(c.grade, good, share, c.error)
			refusal(good, c.grade, share, c.error)
			refusal(c.grade, worse, share, c.error)
		}
		refusal(bad, worse, share, api.ErrForm)
		refusal(worse, bad, share, api.ErrRange)
		refusal(good, worse, share, api.ErrRange)
		m := mixer{}
		for kind := 1; kind <= 6; kind++ {
			for other := 1; other <= 6; other++ {
				if kind != other {
					refusal(m.grade(kind), m.grade(other), share, api.ErrConflict)
				}
			}
		}
		two, three, bent := linear(0, 0, 1, 1), linear(0, 0, 1, 1, 2, 2), smooth(0, 0, 1, 1)
		for i := range 4 {
			for _, pair := range [][2]api.Curve{{two, three}, {three, two}, {two, bent}, {bent, two}, {none, two}, {bent, none}} {
				a, b := curved(two, two, two, two), curved(two, two, two, two)
				a.Curves[i], b.Curves[i] = pair[0], pair[1]
				refusal(a, b, share, api.ErrConflict)
			}
		}
	}
	for _, g := range []api.Grade{good, printer(1, 2, 3), curved()} {
		for _, v := range noNumbers() {
			refusal(g, g, v, api.ErrForm)
		}
		for _, v := range []float32{-single(1), above(1), -1, 2, greatest, -greatest} {
			refusal(g, g, v, api.ErrRange)
		}
	}
	// Errors of the mixture alone.
	refusal(contrast(-greatest, 1), contrast(greatest, 1), 0.5, api.ErrForm)
	refusal(curved(none, linear(0.5, 0, above(0.5), 1)), curved(none, linear(-2, 0, above(-2), 1)), 0.75, api.ErrOrder)
	refusal(curved(linear(0, -greatest, 1, 1)), curved(linear(0, greatest, 1, 1)), 0.5, api.ErrForm)
	high, low := api.Grade{Kind: api.GradeList, CDL: listOf(1, 0, 0.2, 1)}, api.Grade{Kind: api.GradeList, CDL: listOf(1, 0, 16, 1)}
	checkBetween(t, high, low, 0.5, api.Grade{Kind: api.GradeList, CDL: listOf(1, 0, 8.1, 1)})
}

func TestP72Tidy(t *testing.T) {
	neutral := []api.Grade{
		contrast(0, 1), printer(25, 25, 25), curved(), {Kind: api.GradeWheels, Wheels: wheelsOf(minusZero(), 1, 1)},
		{Kind: api.GradeMixer, Mixer: api.Mixer{Rows: [12]float32{1, 0, 0, 0, 0, 1, 0, 0, 0, 0, 1, 0}}},
	}
	m := mixer{}
	for i := range 300 {
		var l, want []api.Grade
		for len(l) < i%(api.MaxGrades+1) {
			g := m.grade(1 + m.below(6))
			if m.below(2) == 0 {
				g = neutral[m.below(len(neutral))]
			}
			if is, _ := grade.Neutral(g); !is {
				want = append(want, g)
			}
			l = append(l, g)
		}
		got, e := grade.Tidy(l)
		checkGrades(t, got, want, "Tidy", l)
		checkError(t, e, api.OK, "Tidy", l)
	}
	limit := api.Grade{Kind: api.GradeList, CDL: listOf(1, 0, 1, 1)} // never neutral
	got, e := grade.Tidy(append(neutral, limit, printer(1, 2, 3), limit, printer(25, 25, 25)))
	checkGrades(t, got, []api.Grade{limit, printer(1, 2, 3), limit}, "Tidy")
	checkError(t, e, api.OK, "Tidy")
	for name, c := range badLists() {
		l, e := grade.Tidy(c.list)
		refused(t, l, e, c.error, name)
	}
	for _, c := range badGrades() {
		l, e := grade.Tidy([]api.Grade{printer(1, 2, 3), c.grade})
		refused(t, l, e, c.error, c.grade)
	}
}
