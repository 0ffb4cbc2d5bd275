package node

import (
	"strconv"
	"strings"

	"dyehouse/api"
	"dyehouse/cube"
	"dyehouse/frame"
	"dyehouse/grade"
	"dyehouse/key"
	"dyehouse/num"
)

// lastNumber is the greatest number of a frame.
const lastNumber = 1 << 24

// scene is what a graph is evaluated with.
type scene struct {
	library api.Library
	sources []api.Frame
	number  int
}

// shelf is a list of things that nodes name by numbers: how many there are, and a
// text that tells a thing, which has no error, from others. Its functions are nil
// where nothing is named.
type shelf struct {
	many func(s scene) int
	text func(s scene, k int) string
}

func sources() shelf {
	return shelf{
		many: func(s scene) int { return len(s.sources) },
		text: func(s scene, k int) string {
			text, _ := frame.Print(s.sources[k])
			return text
		},
	}
}

func gradeLists() shelf {
	return shelf{
		many: func(s scene) int { return len(s.library.Grades) },
		text: func(s scene, k int) string {
			text, _ := grade.Print(s.library.Grades[k])
			return text
		},
	}
}

func cubes() shelf {
	return shelf{
		many: func(s scene) int { return len(s.library.Cubes) },
		text: func(s scene, k int) string { return cubeText(s.library.Cubes[k]) },
	}
}

// cubeText is what cube.Print writes, but for the numbers: their bits are written.
func cubeText(c api.Cube) string {
	var text strings.Builder
	text.WriteString("size " + strconv.Itoa(c.Size) + "\n")
	text.WriteString("domain " + num.Hex(c.Low) + " " + num.Hex(c.High) + "\n")
	for i := 0; i < len(c.V); i += 3 {
		text.WriteString(num.Hex(c.V[i]) + " " + num.Hex(c.V[i+1]) + " " + num.Hex(c.V[i+2]) + "\n")
	}
	return text.String()
}

func windows() shelf {
	return shelf{
		many: func(s scene) int { return len(s.library.Windows) },
		text: func(s scene, k int) string { return windowsText(s.library.Windows[k]) },
	}
}

// windowsText has a line for each key frame.
func windowsText(l []api.KeyFrame) string {
	var text strings.Builder
	for _, k := range l {
		window, _ := key.Print(k.Window)
		text.WriteString(window + " " + strconv.Itoa(k.Frame) + " " + strconv.Itoa(k.Ease) + "\n")
	}
	return text.String()
}

// firstError is that of the first of l that has one.
func firstError[T any](l []T, check func(v T) api.Errno) api.Errno {
	for _, v := range l {
		if e := check(v); e != api.OK {
			return e
		}
	}
	return api.OK
}

// checkGrades is the error of a list of grades.
func checkGrades(l []api.Grade) api.Errno {
	if len(l) > api.MaxGrades {
		return api.ErrLarge
	}
	return firstError(l, grade.CheckGrade)
}

// CheckLibrary is described in doc/09-node.md.
func CheckLibrary(l api.Library) api.Errno {
	if max(len(l.Grades), len(l.Cubes), len(l.Windows)) > api.MaxLibrary {
		return api.ErrLarge
	}
	if e := firstError(l.Grades, checkGrades); e != api.OK {
		return e
	}
	if e := firstError(l.Cubes, cube.Check); e != api.OK {
		return e
	}
	return firstError(l.Windows, key.CheckFrames)
}

// checkScene is the error of a scene for a plan, up to that of its margin.
func checkScene(p plan, s scene) api.Errno {
	if e := CheckLibrary(s.library); e != api.OK {
		return e
	}
	if len(s.sources) > api.MaxSources {
		return api.ErrLarge
	}
	if e := firstError(s.sources, frame.Check); e != api.OK {
		return e
	}
	for i, o := range p.ops {
		if o.named.many != nil && p.Nodes[i].Ints[0] >= o.named.many(s) {
			return api.ErrNone
		}
	}
	if s.number < 0 || s.number > lastNumber {
		return api.ErrRange
	}
	return checkMargin(p.margin(p.Out))
}
