package grade_test

import (
	"math"
	"testing"

	"dyehouse/api"
	"dyehouse/frame"
	"dyehouse/grade"
)

func contrast(pivot, amount float32) api.Grade {
	return api.Grade{Kind: api.GradeContrast, Pivot: pivot, Amount: amount}
}

func printer(red, green, blue int) api.Grade {
	return api.Grade{Kind: api.GradePrinter, Points: [3]int{red, green, blue}}
}

func curved(l ...api.Curve) api.Grade {
	g := api.Grade{Kind: api.GradeCurves}
	copy(g.Curves[:], l)
	return g
}

// badGrade is a grade with the error that it has.
type badGrade struct {
	grade api.Grade
	error api.Errno
}

// badNeeds are grades of which their kind, or something that it needs, has an
// error.
func badNeeds() []badGrade {
	nan, inf := oddNaN(), infinity()
	all := api.Grade{Wheels: wheelsOf(0, 1, 1), CDL: listOf(1, 0, 1, 1), Curves: [4]api.Curve{linear(0, 0, 1, 1)}, Mixer: api.Mixer{Rows: [12]float32{1}}, Pivot: 1, Amount: 1, Points: [3]int{1, 1, 1}}
	var l []badGrade
	for _, kind := range []int{0, -1, 7, math.MinInt, math.MaxInt, 1<<32 + 1} {
		l = append(l, badGrade{api.Grade{Kind: kind}, api.ErrKind})
		all.Kind = kind
		l = append(l, badGrade{all, api.ErrKind})
	}
	short := api.Curve{Kind: api.CurveLinear, X: []float32{1}}
	high := api.Curve{Kind: api.CurveLinear, Y: []float32{1}}
	unkind, unordered := through(3, 0, 0, 1, 1), linear(1, 0, 0, 0)
	good, none := linear(0, 0, 1, 1), api.Curve{}
	return append(l,
		badGrade{api.Grade{Kind: api.GradeWheels}, api.ErrRange}, badGrade{api.Grade{Kind: api.GradeWheels, Wheels: wheelsOf(0, 17, 1)}, api.ErrRange}, badGrade{api.Grade{Kind: api.GradeWheels, Wheels: wheelsOf(0, 17, inf)}, api.ErrForm},
		badGrade{api.Grade{Kind: api.GradeList}, api.ErrRange}, badGrade{api.Grade{Kind: api.GradeList, CDL: listOf(-1, 0, 1, 1)}, api.ErrRange}, badGrade{api.Grade{Kind: api.GradeList, CDL: listOf(-1, nan, 1, 1)}, api.ErrForm},
		badGrade{api.Grade{Kind: api.GradeMixer, Mixer: api.Mixer{Rows: [12]float32{11: inf}}}, api.ErrForm},
		badGrade{contrast(nan, 1), api.ErrForm}, badGrade{contrast(inf, 1), api.ErrForm}, badGrade{contrast(0, nan), api.ErrForm}, badGrade{contrast(0, -inf), api.ErrForm},
		badGrade{printer(-1, 0, 0), api.ErrRange}, badGrade{printer(0, 51, 0), api.ErrRange}, badGrade{printer(0, 0, math.MaxInt), api.ErrRange}, badGrade{printer(0, math.MinInt, 0), api.ErrRange},
		badGrade{curved(short), api.ErrForm}, badGrade{curved(good, high), api.ErrForm}, badGrade{curved(none, none, none, short), api.ErrForm}, badGrade{curved(none, none, unkind), api.ErrKind},
		badGrade{curved(good, unordered, unkind), api.ErrOrder}, badGrade{curved(unkind, unordered), api.ErrKind}, badGrade{curved(good, good, good, unordered), api.ErrOrder}, badGrade{curved(api.Curve{X: []float32{0, 1}, Y: []float32{0, 1}}), api.ErrKind},
	)
}

// needless are grades with nothing that is not zero but a thing that grades of
// one kind need.
func needless() map[int][]api.Grade {
	l := map[int][]api.Grade{}
	for i := range 3 {
		for _, v := range []float32{1, -single(1), infinity(), oddNaN()} {
			var w [3]float32
			w[i] = v
			l[api.GradeWheels] = append(l[api.GradeWheels], api.Grade{Wheels: api.Wheels{Lift: w}}, api.Grade{Wheels: api.Wheels{Gamma: w}}, api.Grade{Wheels: api.Wheels{Gain: w}})
			l[api.GradeList] = append(l[api.GradeList], api.Grade{CDL: api.CDL{Slope: w}}, api.Grade{CDL: api.CDL{Offset: w}}, api.Grade{CDL: api.CDL{Power: w}}, api.Grade{CDL: api.CDL{Saturation: v}})
			l[api.GradeContrast] = append(l[api.GradeContrast], api.Grade{Pivot: v}, api.Grade{Amount: v})
			for place := range 12 {
				var g api.Grade
				g.Mixer.Rows[place] = v
				l[api.GradeMixer] = append(l[api.GradeMixer], g)
			}
		}
		for _, n := range []int{1, -1, 25, math.MinInt} {
			var g api.Grade
			g.Points[i] = n
			l[api.GradePrinter] = append(l[api.GradePrinter], g)
		}
	}
	for i := range 4 {
		for _, c := range []api.Curve{linear(0, 0, 1, 1), {Kind: 1}, {Kind: -1}, {X: []float32{0}}, {Y: []float32{0}}} {
			var g api.Grade
			g.Curves[i] = c
			l[api.GradeCurves] = append(l[api.GradeCurves], g)
		}
	}
	return l
}

// together returns g with what is not zero in extra, which g does not need.
func together(g, extra api.Grade, kind int) api.Grade {
	switch kind {
	case api.GradeWheels:
		g.Wheels = extra.Wheels
	case api.GradeList:
		g.CDL = extra.CDL
	case api.GradeCurves:
		g.Curves = extra.Curves
	case api.GradeMixer:
		g.Mixer = extra.Mixer
	case api.GradeContrast:
		g.Pivot, g.Amount = extra.Pivot, extra.Amount
	case api.GradePrinter:
		g.Points = extra.Points
	}
	return g
}

// goodGrades are grades of all kinds at their bounds.
func goodGrades() []api.Grade {
	zero := minusZero()
	m := mixer{}
	return append(m.grades(40),
		api.Grade{Kind: api.GradeWheels, Wheels: wheelsOf(-greatest, 0.0625, greatest)}, api.Grade{Kind: api.GradeWheels, Wheels: wheelsOf(zero, 16, single(1))},
		api.Grade{Kind: api.GradeList, CDL: listOf(greatest, -greatest, 16, 8)}, api.Grade{Kind: api.GradeList, CDL: listOf(zero, zero, 0.0625, zero)},
		curved(), curved(rising(api.CurveSmooth, 32), smooth(0, 0, single(1), greatest)), api.Grade{Kind: api.GradeCurves, Curves: [4]api.Curve{{X: []float32{}, Y: []float32{}}}},
		api.Grade{Kind: api.GradeMixer}, contrast(0, 0), contrast(zero, greatest), printer(0, 0, 0), printer(50, 50, 50), printer(25, 25, 25),
		api.Grade{Kind: api.GradePrinter, Pivot: zero, Amount: zero, Wheels: wheelsOf(zero, zero, zero), CDL: listOf(zero, zero, zero, zero), Mixer: api.Mixer{Rows: [12]float32{zero, 3: zero}}},
		api.Grade{Kind: api.GradeMixer, Curves: [4]api.Curve{{X: []float32{}, Y: []float32{}}}},
	)
}

// badGrades are grades of each error of CheckGrade.
func badGrades() []badGrade {
	l := badNeeds()
	m := mixer{}
	for kind := api.GradeWheels; kind <= api.GradePrinter; kind++ {
		for other, extras := range needless() {
			for _, extra := range extras {
				if kind != other {
					l = append(l, badGrade{together(m.grade(kind), extra, other), api.ErrConflict})
				}
			}
		}
	}
	// The kind of a curve without points is not needed.
	good, unordered := linear(0, 0, 1, 1), linear(1, 0, 0, 0)
	for i := range 4 {
		for _, none := range []api.Curve{{Kind: api.CurveLinear}, {Kind: api.CurveSmooth, X: []float32{}, Y: []float32{}}, {Kind: -1}, {Kind: 3}} {
			alone, beside, wrong := curved(), curved(good, good, good, good), curved(unordered, unordered, unordered, unordered)
			alone.Curves[i], beside.Curves[i], wrong.Curves[i] = none, none, none
			l = append(l, badGrade{alone, api.ErrConflict}, badGrade{beside, api.ErrConflict}, badGrade{wrong, api.ErrOrder})
		}
	}
	// What is needed comes ahead of what is not.
	wrong := contrast(oddNaN(), 1)
	wrong.Points[0] = 1
	return append(l, badGrade{wrong, api.ErrForm})
}

func TestP71CheckGrade(t *testing.T) {
	for _, g := range goodGrades() {
		checkError(t, grade.CheckGrade(g), api.OK, g)
	}
	p := api.Pixel{1, 2, 3, 4}
	for _, c := range badGrades() {
		checkError(t, grade.CheckGrade(c.grade), c.error, c.grade)
		neutral, e := grade.Neutral(c.grade)
		refused(t, neutral, e, c.error, "Neutral", c.grade)
		q, e := grade.Apply(c.grade, p)
		refused(t, q, e, c.error, "Apply", c.grade)
	}
}

func TestP71Neutral(t *testing.T) {
	zero := minusZero()
	itself := api.Mixer{Rows: [12]float32{1, 0, 0, 0, 0, 1, 0, 0, 0, 0, 1, 0}}
	minus := api.Mixer{Rows: [12]float32{1, zero, zero, zero, zero, 1, zero, zero, zero, zero, 1, zero}}
	wheels := func(lift, gamma, gain float32) api.Grade {
		return api.Grade{Kind: api.GradeWheels, Wheels: wheelsOf(lift, gamma, gain)}
	}
	neutral := []api.Grade{
		wheels(0, 1, 1), wheels(zero, 1, 1), {Kind: api.GradeMixer, Mixer: itself}, {Kind: api.GradeMixer, Mixer: minus},
		contrast(0, 1), contrast(zero, 1), printer(25, 25, 25), curved(), {Kind: api.GradeCurves, Curves: [4]api.Curve{{X: []float32{}, Y: []float32{}}}},
	}
	values := []float32{0, minusZero(), single(1), -single(1), single(0x007fffff), 1, -1, 0.1, -3, greatest, -greatest}
	for _, g := range neutral {
		is, e := grade.Neutral(g)
		if !is || e != api.OK {
			t.Errorf("Neutral(%v): %v, error %d", g, is, e)
		}
		for _, v := range values {
			p, _ := grade.Apply(g, api.Pixel{v, -v, 1 - v, v})
			if p != (api.Pixel{v, -v, 1 - v, v}) {
				t.Errorf("%v makes %v of %v", g, p, v)
			}
		}
	}
	same := linear(0, 0, 1, 1)
	other := []api.Grade{
		wheels(single(1), 1, 1), wheels(0, above(1), 1), wheels(0, 1, below(1)), contrast(single(1), 1), contrast(0.5, 1), contrast(0, above(1)), contrast(0, 0), contrast(1, 0),
		{Kind: api.GradeList, CDL: listOf(1, 0, 1, 1)}, curved(same), curved(api.Curve{}, same), curved(api.Curve{}, api.Curve{}, same), curved(api.Curve{}, api.Curve{}, api.Curve{}, same),
		printer(24, 25, 25), printer(25, 26, 25), printer(25, 25, 24), printer(0, 0, 0), {Kind: api.GradeMixer},
	}
	for i := range 3 {
		a, b, c := wheels(0, 1, 1), wheels(0, 1, 1), wheels(0, 1, 1)
		a.Wheels.Lift[i], b.Wheels.Gamma[i], c.Wheels.Gain[i] = 1, 2, 0
		other = append(other, a, b, c)
	}
	for i := range 12 {
		g := api.Grade{Kind: api.GradeMixer, Mixer: itself}
		g.Mixer.Rows[i] += 0.5
		other = append(other, g)
	}
	for _, g := range other {
		if is, e := grade.Neutral(g); is || e != api.OK {
			t.Errorf("Neutral(%v): %v, error %d", g, is, e)
		}
	}
}

// wantApply is what a grade does to a pixel.
func wantApply(t *testing.T, g api.Grade, p api.Pixel) api.Pixel {
	switch g.Kind {
	case api.GradeWheels:
		return grade.Wheels(g.Wheels, p)
	case api.GradeList:
		return grade.List(g.CDL, p)
	case api.GradeMixer:
		return grade.Mixer(g.Mixer, p)
	case api.GradePrinter:
		p, e := grade.Printer(g.Points, p)
		checkError(t, e, api.OK, "Printer", g.Points)
		return p
	}
	for i := range 3 {
		if g.Kind == api.GradeContrast {
			p[i] = grade.Contrast(p[i], g.Pivot, g.Amount)
			continue
		}
		for _, c := range []api.Curve{g.Curves[i], g.Curves[3]} {
			if len(c.X) > 0 {
				v, e := grade.Bend(c, p[i])
				checkError(t, e, api.OK, "Bend", c)
				p[i] = v
			}
		}
	}
	return p
}

func TestP71Apply(t *testing.T) {
	m := mixer{}
	for _, g := range goodGrades() {
		for range 200 {
			p := pixel(m.wild)
			got, e := grade.Apply(g, p)
			checkPixel(t, got, wantApply(t, g, p), "Apply", g, p)
			checkError(t, e, api.OK, "Apply", g)
		}
	}
	twice, more, minus := linear(0, 0, 1, 2), linear(0, 1, 1, 2), linear(0, 0, 1, -1)
	p := api.Pixel{1, 2, 3, oddNaN()}
	for _, c := range []struct {
		g    api.Grade
		want api.Pixel
	}{
		{curved(twice), api.Pixel{2, 2, 3, oddNaN()}}, {curved(api.Curve{}, twice), api.Pixel{1, 4, 3, oddNaN()}}, {curved(api.Curve{}, api.Curve{}, twice), api.Pixel{1, 2, 6, oddNaN()}},
		{curved(twice, minus, more, more), api.Pixel{3, -1, 5, oddNaN()}}, {curved(more, more, more, twice), api.Pixel{4, 6, 8, oddNaN()}}, {curved(), p},
		{contrast(1, 2), api.Pixel{1, 3, 5, oddNaN()}}, {printer(25, 37, 13), api.Pixel{1, 4, 1.5, oddNaN()}},
	} {
		got, e := grade.Apply(c.g, p)
		checkPixel(t, got, c.want, "Apply", c.g)
		checkError(t, e, api.OK, "Apply", c.g)
	}
}

// wantApplyAll is what a list of grades does to a frame.
func wantApplyAll(t *testing.T, l []api.Grade, f api.Frame) []float32 {
	var v []float32
	for i := 0; i < len(f.V); i += 4 {
		p := api.Pixel(f.V[i : i+4])
		for _, g := range l {
			p = wantApply(t, g, p)
		}
		v = append(v, p[:]...)
	}
	return v
}

func TestP71ApplyAll(t *testing.T) {
	m := mixer{}
	for i := range 60 {
		l, f := m.grades(i%7), m.frame(i-9, 3-i, 1+m.below(6), 1+m.below(6))
		if i == 20 {
			f = m.frame(-128, 7, 256, 64)
		}
		got, e := grade.ApplyAll(l, f)
		checkError(t, e, api.OK, "ApplyAll", l, f.Region)
		if got.Region != f.Region {
			t.Errorf("ApplyAll: %v, want %v", got.Region, f.Region)
		}
		checkList(t, got.V, wantApplyAll(t, l, f), "ApplyAll", l, f.Region)
	}
	f := api.Frame{Region: api.Region{W: 1, H: 1}, V: []float32{1, minusZero(), oddNaN(), single(0xffffffff)}}
	for _, l := range [][]api.Grade{nil, {}} {
		got, e := grade.ApplyAll(l, f)
		checkError(t, e, api.OK, "no grades")
		checkList(t, got.V, f.V, "no grades")
	}
	// In order: the contrast first, then the list, which limits.
	order := []api.Grade{contrast(0, 4), {Kind: api.GradeList, CDL: listOf(1, 0, 1, 1)}, contrast(1, 2)}
	got, _ := grade.ApplyAll(order, api.Frame{Region: api.Region{W: 1, H: 1}, V: []float32{0.125, 0.5, -1, 1}})
	checkList(t, got.V, []float32{0, 1, -1, 1}, "in order")
	many := make([]api.Grade, api.MaxGrades)
	for i := range many {
		many[i] = contrast(-1, 2)
	}
	got, e := grade.ApplyAll(many, api.Frame{Region: api.Region{W: 1, H: 1}, V: []float32{0, -1, -2, 1}})
	checkError(t, e, api.OK, "the longest list")
	checkList(t, got.V, []float32{0x1p64, -1, -0x1p64, 1}, "the longest list")
}

// badLists are lists of grades with the errors that they have.
func badLists() map[string]badList {
	bad, worse := contrast(oddNaN(), 0), printer(99, 0, 0)
	conflict := contrast(0, 1)
	conflict.Points[2] = 5
	long := make([]api.Grade, api.MaxGrades+1)
	wrong := make([]api.Grade, api.MaxGrades)
	for i := range long {
		long[i] = printer(25, 25, 25)
	}
	copy(wrong, long)
	wrong[api.MaxGrades-1] = bad
	longAndBad := append([]api.Grade{bad}, long...)
	return map[string]badList{
		"too long": {long, api.ErrLarge}, "too long and bad": {longAndBad, api.ErrLarge}, "the last one": {wrong, api.ErrForm}, "no kind": {[]api.Grade{{}}, api.ErrKind},
		"the first of two": {[]api.Grade{printer(1, 2, 3), bad, worse}, api.ErrForm}, "the other way round": {[]api.Grade{worse, bad}, api.ErrRange}, "a conflict": {[]api.Grade{conflict, bad}, api.ErrConflict},
		"a kind without points": {[]api.Grade{curved(api.Curve{Kind: api.CurveLinear}), bad}, api.ErrConflict},
	}
}

// badList is a list with the error that it has.
type badList struct {
	list  []api.Grade
	error api.Errno
}

func TestP71ApplyAllErrors(t *testing.T) {
	m := mixer{}
	good := m.frame(0, 0, 2, 2)
	for name, c := range badLists() {
		f, e := grade.ApplyAll(c.list, good)
		refused(t, f, e, c.error, name)
	}
	for _, f := range []api.Frame{
		{}, {Region: api.Region{W: 257, H: 1}, V: make([]float32, 4*257)}, {Region: api.Region{W: 256, H: 65}}, {Region: api.Region{X: 1 << 20, W: 1, H: 1}, V: make([]float32, 4)},
		{Region: api.Region{W: 1, H: 1}}, {Region: api.Region{W: 1, H: 1}, V: make([]float32, 3)}, {Region: api.Region{W: 1, H: 1}, V: make([]float32, 5)}, {Region: api.Region{W: 1, H: 1}, V: make([]float32, 8)},
	} {
		want := frame.Check(f)
		if want == api.OK {
			t.Fatal("a frame without error")
		}
		g, e := grade.ApplyAll(nil, f)
		refused(t, g, e, want, f.Region)
		for name, c := range badLists() { // the frame's error comes first
			g, e := grade.ApplyAll(c.list, f)
			refused(t, g, e, want, name, f.Region)
		}
	}
}

// Results are scribbled over, with their unused capacity; nothing that was
// handed in, and no later result, may notice.
func TestP71MemoryIsNotShared(t *testing.T) {
	m := mixer{}
	var changed []func() bool
	lend := func(l []float32) []float32 {
		l, has := spare(l)
		changed = append(changed, has)
		return l
	}
	g, h := curved(m.curve(1, 3), m.curve(2, 4), api.Curve{}, m.curve(2, 5)), curved()
	for i, c := range g.Curves {
		h.Curves[i] = api.Curve{Kind: c.Kind, X: lend(c.X), Y: lend(c.Y)}
		g.Curves[i] = api.Curve{Kind: c.Kind, X: lend(c.X), Y: lend(c.Y)}
	}
	f := m.frame(0, 0, 3, 3)
	f.V = lend(f.V)
	list := append(make([]api.Grade, 0, 9), printer(25, 25, 25), g, contrast(1, 2), h)
	text, _ := grade.Print(list)
	for range 2 {
		for _, l := range [][]api.Grade{nil, list} {
			graded, _ := grade.ApplyAll(l, f)
			checkList(t, graded.V, wantApplyAll(t, l, f), "ApplyAll")
			scribble(graded.V)
		}
		tidy, _ := grade.Tidy(list)
		checkGrades(t, tidy, []api.Grade{g, contrast(1, 2), h}, "Tidy")
		read, _, _ := grade.Parse(text)
		checkGrades(t, read, list, "Parse")
		for _, share := range []float32{0, 1} {
			mixed, _ := grade.Between(g, h, share)
			checkGrades(t, []api.Grade{mixed}, []api.Grade{g}, "Between")
			scribbleGrades(t, []api.Grade{mixed})
		}
		scribbleGrades(t, tidy)
		scribbleGrades(t, read)
		for i := range changed {
			if changed[i]() {
				t.Fatal("an argument has changed", i)
			}
		}
		checkGrades(t, list[:5][4:], []api.Grade{{}}, "unused capacity")
	}
}

// scribbleGrades writes over grades and their curves, of which no two lists may
// share memory.
func scribbleGrades(t *testing.T, l []api.Grade) {
	t.Helper()
	for _, g := range l {
		for _, c := range g.Curves {
			for _, v := range append(append([]float32{}, c.X...), c.Y...) {
				if v == 77 {
					t.Error("two lists of a result share memory")
				}
			}
			scribble(c.X)
			for _, v := range c.Y {
				if v == 77 {
					t.Error("two lists of a curve share memory")
				}
			}
			scribble(c.Y)
		}
	}
	l = l[:cap(l)]
	for i := range l {
		l[i] = printer(7, 7, 7)
	}
}
