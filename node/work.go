package node

import (
	"dyehouse/api"
	"dyehouse/colour"
	"dyehouse/cube"
	"dyehouse/finish"
	"dyehouse/frame"
	"dyehouse/grade"
	"dyehouse/key"
)

// work is to make the values of a node at the places of a region, which is small
// enough for a frame, also if it is grown by what the node looks around. So grown
// is the region of what goes in.
type work struct {
	api.Region
	scene
	node api.Node
	in   []piece
}

// picture is the picture that goes in as number i. It stands at (0, 0), as frames
// do not reach all places; so it is for functions that do not ask where it is.
func (w work) picture(i int) api.Frame {
	return api.Frame{Region: api.Region{W: w.in[i].W, H: w.in[i].H}, V: w.in[i].v}
}

// matte is likewise the matte that goes in as number i.
func (w work) matte(i int) api.Matte {
	return api.Matte{Region: api.Region{W: w.in[i].W, H: w.in[i].H}, V: w.in[i].v}
}

// visit shows each place, row by row.
func (w work) visit(show func(x, y int)) {
	for y := w.Y; y < w.Y+w.H; y++ {
		for x := w.X; x < w.X+w.W; x++ {
			show(x, y)
		}
	}
}

// changed returns what change makes of each pixel of the one picture that goes in.
func (w work) changed(change func(x, y int, p api.Pixel) api.Pixel) []float32 {
	rest := w.in[0].v
	v := make([]float32, 0, len(rest))
	w.visit(func(x, y int) {
		p, _ := frame.Take(rest)
		rest = rest[channels:]
		p = change(x, y, p)
		v = append(v, p[:]...)
	})
	return v
}

func nearest(w work) []float32 {
	f := w.sources[w.node.Ints[0]]
	v := make([]float32, 0, channels*w.W*w.H)
	w.visit(func(x, y int) {
		p, _ := frame.At(f, min(max(x, f.X), f.X+f.W-1), min(max(y, f.Y), f.Y+f.H-1))
		v = append(v, p[:]...)
	})
	return v
}

func filled(w work) []float32 {
	p, _ := frame.Take(w.node.Reals)
	f, _ := frame.Fill(api.Region{W: w.W, H: w.H}, p)
	return f.V
}

func graded(w work) []float32 {
	f, _ := grade.ApplyAll(w.library.Grades[w.node.Ints[0]], w.picture(0))
	return f.V
}

func looked(w work) []float32 {
	f, _ := cube.Apply(w.library.Cubes[w.node.Ints[0]], w.node.Ints[1], w.picture(0))
	return f.V
}

func converted(w work) []float32 {
	names := colour.Names()
	from, _ := colour.Known(names[w.node.Ints[0]])
	to, _ := colour.Known(names[w.node.Ints[1]])
	f, _ := colour.Convert(w.picture(0), from, to)
	return f.V
}

// weights are those of luma.
func weights() [3]float32 {
	video, _ := colour.Known("video")
	l, _ := colour.Weights(video.Primaries)
	return l
}

func saturated(w work) []float32 {
	luma, amount := weights(), w.node.Reals[0]
	return w.changed(func(_, _ int, p api.Pixel) api.Pixel { return colour.Saturate(luma, p, amount) })
}

func turned(w work) []float32 {
	by := w.node.Reals[0]
	return w.changed(func(_, _ int, p api.Pixel) api.Pixel { return colour.Turn(p, by) })
}

func toned(w work) []float32 {
	f, _ := finish.Toned(w.picture(0), toneOf(w.node))
	return f.V
}

func exposed(w work) []float32 {
	stops := w.node.Reals[0]
	return w.changed(func(_, _ int, p api.Pixel) api.Pixel { return finish.Expose(p, stops) })
}

func compressed(w work) []float32 {
	from := w.node.Reals[0]
	return w.changed(func(_, _ int, p api.Pixel) api.Pixel {
		p, _ = finish.Compress(p, from)
		return p
	})
}

func grained(w work) []float32 {
	grain := grainOf(w.node)
	return w.changed(func(x, y int, p api.Pixel) api.Pixel {
		p, _ = finish.Grained(grain, w.number, x, y, p)
		return p
	})
}

func vignetted(w work) []float32 {
	v := vignetteOf(w.node)
	return w.changed(func(x, y int, p api.Pixel) api.Pixel { return vignettedPixel(v, x, y, p) })
}

// vignettedPixel is what a vignette makes of a pixel. Frames have no pixels at
// MaxPlace: such a one is reflected together with the middle, from which it is then
// just as far away.
func vignettedPixel(v api.Vignette, x, y int, p api.Pixel) api.Pixel {
	if x == api.MaxPlace {
		x, v.X = -x, -v.X
	}
	if y == api.MaxPlace {
		y, v.Y = -y, -v.Y
	}
	f, _ := finish.Vignette(api.Frame{Region: api.Region{X: x, Y: y, W: 1, H: 1}, V: p[:]}, v)
	p, _ = frame.Take(f.V)
	return p
}

func sharpened(w work) []float32 {
	f, _ := finish.Sharpen(w.picture(0), w.node.Reals[0], w.node.Reals[1])
	f, _ = frame.Cut(f, api.Region{X: 1, Y: 1, W: w.W, H: w.H})
	return f.V
}

func blurred(w work) []float32 {
	f, _ := frame.Blur(w.picture(0), w.node.Ints[0])
	return f.V
}

func mixed(w work) []float32 {
	f, _ := frame.Mix(w.picture(0), w.picture(1), w.node.Reals[0])
	return f.V
}

func combined(w work) []float32 {
	f, _ := frame.Combine(w.node.Ints[0], w.picture(0), w.picture(1))
	return f.V
}

func through(w work) []float32 {
	f, _ := frame.Through(w.picture(0), w.picture(1), w.matte(2))
	return f.V
}

func alphas(w work) []float32 {
	v, _ := frame.Plane(w.picture(0), alpha)
	return v
}

func covered(w work) []float32 {
	rest := w.in[1].v
	return w.changed(func(_, _ int, p api.Pixel) api.Pixel {
		p[alpha] = rest[0]
		rest = rest[1:]
		return p
	})
}

func lumaKeyed(w work) []float32 {
	m, _ := key.LumaMatte(rampOf(w.node.Reals), weights(), w.picture(0))
	return m.V
}

func hueKeyed(w work) []float32 {
	m, _ := key.HueMatte(hueOf(w.node), w.picture(0))
	return m.V
}

func windowed(w work) []float32 {
	window, _ := key.Between(w.library.Windows[w.node.Ints[0]], w.number)
	v := make([]float32, 0, w.W*w.H)
	w.visit(func(x, y int) {
		share, _ := key.Window(window, x, y)
		v = append(v, share)
	})
	return v
}

func inverted(w work) []float32 {
	m, _ := key.Invert(w.matte(0))
	return m.V
}

func met(w work) []float32 {
	m, _ := key.Meet(w.node.Ints[0], w.matte(0), w.matte(1))
	return m.V
}

func spread(w work) []float32 {
	m, _ := key.Spread(w.matte(0), w.node.Ints[0])
	return m.V
}

func shrunk(w work) []float32 {
	m, _ := key.Shrink(w.matte(0), w.node.Ints[0])
	return m.V
}

func feathered(w work) []float32 {
	m, _ := key.Feather(w.matte(0), w.node.Ints[0])
	return m.V
}
