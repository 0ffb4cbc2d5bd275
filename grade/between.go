package grade

import (
	"slices"

	"dyehouse/api"
	"dyehouse/num"
)

// copied returns g with memory of its own.
func copied(g api.Grade) api.Grade {
	for i, c := range g.Curves {
		g.Curves[i].X, g.Curves[i].Y = slices.Clone(c.X), slices.Clone(c.Y)
	}
	return g
}

// singlesOf are the places of the singles that a grade of that kind needs, in
// the order in which they are written.
func singlesOf(kind int, g *api.Grade) []*float32 {
	var l []*float32
	add := func(row []float32) {
		for i := range row {
			l = append(l, &row[i])
		}
	}
	switch kind {
	case api.GradeWheels:
		add(g.Wheels.Lift[:])
		add(g.Wheels.Gamma[:])
		add(g.Wheels.Gain[:])
	case api.GradeList:
		add(g.CDL.Slope[:])
		add(g.CDL.Offset[:])
		add(g.CDL.Power[:])
		l = append(l, &g.CDL.Saturation)
	case api.GradeCurves:
		for _, c := range g.Curves {
			add(c.X)
			add(c.Y)
		}
	case api.GradeMixer:
		add(g.Mixer.Rows[:])
	case api.GradeContrast:
		l = append(l, &g.Pivot, &g.Amount)
	}
	return l
}

// singles are the places of all singles of g, also of those that its kind does
// not need: these are zeros, but of either sign.
func singles(g *api.Grade) []*float32 {
	var l []*float32
	for kind := range gradeWords() {
		l = append(l, singlesOf(kind, g)...)
	}
	return l
}

// areAlike says whether two grades that have no error can be mixed.
func areAlike(a, b api.Grade) bool {
	for i, c := range a.Curves {
		if c.Kind != b.Curves[i].Kind || len(c.X) != len(b.Curves[i].X) {
			return false
		}
	}
	return a.Kind == b.Kind
}

// checkShare is the error of what has to be a share.
func checkShare(t float32) api.Errno {
	if !areNumbers(t) {
		return api.ErrForm
	}
	if t < 0 || t > 1 {
		return api.ErrRange
	}
	return api.OK
}

// mixed returns the mixture of two grades that are alike.
func mixed(a, b api.Grade, t float32) api.Grade {
	g := copied(a)
	others := singles(&b)
	for i, v := range singles(&g) {
		*v = num.Lerp(*v, *others[i], t)
	}
	for i, n := range g.Points {
		g.Points[i], _, _ = num.Near(num.Lerp(float32(n), float32(b.Points[i]), t), 0, maxPoints)
	}
	return g
}

// Between is described in doc/04-grade.md.
func Between(a, b api.Grade, t float32) (api.Grade, api.Errno) {
	for _, g := range [...]api.Grade{a, b} {
		if e := CheckGrade(g); e != api.OK {
			return api.Grade{}, e
		}
	}
	if !areAlike(a, b) {
		return api.Grade{}, api.ErrConflict
	}
	if e := checkShare(t); e != api.OK {
		return api.Grade{}, e
	}
	g := mixed(a, b, t)
	if e := CheckGrade(g); e != api.OK {
		return api.Grade{}, e
	}
	return g, api.OK
}

// Tidy is described in doc/04-grade.md.
func Tidy(l []api.Grade) ([]api.Grade, api.Errno) {
	if e := checkAll(l); e != api.OK {
		return nil, e
	}
	var kept []api.Grade
	for _, g := range l {
		if !isNeutral(g) {
			kept = append(kept, copied(g))
		}
	}
	return kept, api.OK
}
