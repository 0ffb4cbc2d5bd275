package cube_test

import (
	"slices"
	"testing"

	"dyehouse/api"
	"dyehouse/cube"
)

// making are the functions that make a list of singles of what memory holds.
func making(a, b api.Cube, f api.Frame) map[string]func() []float32 {
	one := func(c api.Cube, _ api.Errno) []float32 { return c.V }
	return map[string]func() []float32{
		"Identity":   func() []float32 { return one(cube.Identity(3)) },
		"Compose":    func() []float32 { return one(cube.Compose(a, b)) },
		"Resize":     func() []float32 { return one(cube.Resize(a, a.Size)) },
		"Blend":      func() []float32 { return one(cube.Blend(a, b, 0)) },
		"Blend all":  func() []float32 { return one(cube.Blend(a, b, 1)) },
		"Smoothed":   func() []float32 { return one(cube.Smoothed(a, 2)) },
		"Smoothed 0": func() []float32 { return one(cube.Smoothed(a, 0)) },
		"FromGrade":  func() []float32 { return one(cube.FromGrade(2, at(a, 0, 0, 0), at(a, 0, 0, 0), [3]float32{1, 1, 1})) },
		"Apply": func() []float32 {
			g, _ := cube.Apply(a, api.CubeTetra, f)
			return g.V
		},
		"Apply linear": func() []float32 {
			g, _ := cube.Apply(a, api.CubeLinear, f)
			return g.V
		},
		"Parse": func() []float32 {
			text, _ := cube.Print(a)
			c, _, _ := cube.Parse(text)
			return c.V
		},
		"no list": func() []float32 {
			cube.Check(a)
			cube.Entry(a, 0, 0, 0)
			cube.Grey(a)
			cube.Rough(a)
			cube.Apart(a, b)
			cube.Bounds(a)
			cube.Nearest(a, [3]float32{})
			cube.Back(a, [3]float32{}, 9)
			cube.Tetra(a, api.Pixel{})
			cube.Linear(b, api.Pixel{})
			return nil
		},
	}
}

// Results are scribbled over, with their unused capacity; nothing that was
// handed in, and no later result, may notice.
func TestP85MemoryIsNotShared(t *testing.T) {
	m := mixer{}
	a := cubeOf(3, 0, 1, m.wild)
	b := cubeOf(3, 0, 1, m.wild)
	copy(a.V, []float32{1, 2, 3})
	f := m.frame(a, 0, 0, 4, 4)
	var changed [3]func() bool
	a.V, changed[0] = spare(a.V)
	b.V, changed[1] = spare(b.V)
	f.V, changed[2] = spare(f.V)
	for name, call := range making(a, b, f) {
		first := call()
		was := slices.Clone(first)
		first = first[:cap(first)]
		for i := range first {
			first[i] = 77
		}
		if second := call(); len(was) == 0 && name != "no list" {
			t.Error(name, "makes nothing")
		} else {
			checkList(t, second, was, name)
		}
		for i := range changed {
			if changed[i]() {
				t.Fatal(name, "changed argument", i)
			}
		}
	}
}
