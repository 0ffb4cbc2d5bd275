package frame_test

import (
	"slices"
	"testing"

	"dyehouse/api"
	"dyehouse/frame"
)

// making are the functions that make a frame of what memory holds.
func making(a, b api.Frame, plane []float32) map[string]func() (api.Frame, api.Errno) {
	r, matte := a.Region, api.Matte{Region: a.Region, V: plane}
	inner := region(r.X+1, r.Y+1, r.W-2, r.H-2)
	return map[string]func() (api.Frame, api.Errno){
		"Clean":      func() (api.Frame, api.Errno) { return frame.Clean(a) },
		"Put":        func() (api.Frame, api.Errno) { return frame.Put(a, r.X, r.Y, api.Pixel{1, 2, 3, 4}) },
		"Cut":        func() (api.Frame, api.Errno) { return frame.Cut(a, r) },
		"Cut inside": func() (api.Frame, api.Errno) { return frame.Cut(a, inner) },
		"Paste":      func() (api.Frame, api.Errno) { return frame.Paste(a, b) },
		"Join":       func() (api.Frame, api.Errno) { return frame.Join(r, []api.Frame{a}) },
		"FromPlanes": func() (api.Frame, api.Errno) {
			return frame.FromPlanes(r, [4][]float32{plane, plane, plane, plane})
		},
		"Combine":  func() (api.Frame, api.Errno) { return frame.Combine(api.OpOver, a, b) },
		"Scale":    func() (api.Frame, api.Errno) { return frame.Scale(a, api.Pixel{1, 1, 1, 1}, api.Pixel{}) },
		"Mix":      func() (api.Frame, api.Errno) { return frame.Mix(a, b, 0) },
		"Mix all":  func() (api.Frame, api.Errno) { return frame.Mix(a, b, 1) },
		"Through":  func() (api.Frame, api.Errno) { return frame.Through(a, b, matte) },
		"Kernel":   func() (api.Frame, api.Errno) { return frame.Kernel(a, plane[:9], 3) },
		"Kernel 1": func() (api.Frame, api.Errno) { return frame.Kernel(a, plane[:1], 1) },
		"Blur":     func() (api.Frame, api.Errno) { return frame.Blur(a, 1) },
		"Blur 0":   func() (api.Frame, api.Errno) { return frame.Blur(a, 0) },
		"Half":     func() (api.Frame, api.Errno) { return frame.Half(a) },
		"Resample": func() (api.Frame, api.Errno) { return frame.Resample(a, r, 1, 1) },
		"FromText": func() (api.Frame, api.Errno) {
			text, _ := frame.Print(a)
			f, _, e := frame.Parse(text)
			return f, e
		},
		"FromPlane": func() (api.Frame, api.Errno) {
			l, e := frame.Plane(a, 2)
			return api.Frame{Region: region(0, 0, 1, 1), V: l}, e
		},
	}
}

// Results are scribbled over, with their unused capacity; nothing that was
// handed in, and no later result, may notice.
func TestP21MemoryIsNotShared(t *testing.T) {
	a, b := wild(region(-2, 4, 5, 5), 1), wild(region(-2, 4, 5, 5), 2)
	plane, _ := frame.Plane(wild(region(0, 0, 5, 5), 3), 0)
	var changed [3]func() bool
	a.V, changed[0] = spare(a.V)
	b.V, changed[1] = spare(b.V)
	plane, changed[2] = spare(plane)
	for name, call := range making(a, b, plane) {
		first, e := call()
		was := api.Frame{Region: first.Region, V: slices.Clone(first.V)}
		all := first.V[:cap(first.V)]
		for i := range all {
			all[i] = 77
		}
		second, _ := call()
		check(t, second, e, was, name)
		frame.Print(a)
		frame.Total(a)
		frame.Same(a, b)
		for i := range changed {
			if changed[i]() {
				t.Fatal(name, "changed argument", i)
			}
		}
	}
}
