package node_test

import (
	"math"

	"dyehouse/api"
	"dyehouse/colour"
	"dyehouse/cube"
	"dyehouse/finish"
	"dyehouse/grade"
	"dyehouse/key"
	"dyehouse/num"
)

// reference evaluates a graph place by place, as the table says.
type reference struct {
	api.Graph
	world
	had map[spot]api.Pixel
}

type spot struct{ node, x, y int }

func referenceOf(g api.Graph, w world) *reference {
	return &reference{g, w, map[spot]api.Pixel{}}
}

// over are the singles of a node in a region.
func (r *reference) over(n int, region api.Region) []float32 {
	return pixelsOf(region, func(x, y int) api.Pixel { return r.at(n, x, y) })
}

// at is what a node has at a place: a matte has its value as red.
func (r *reference) at(n, x, y int) api.Pixel {
	p, done := r.had[spot{n, x, y}]
	if !done {
		p = r.made(r.Nodes[n], x, y)
		for i, v := range p {
			p[i] = single(clean(v))
		}
		r.had[spot{n, x, y}] = p
	}
	return p
}

// value is that of a matte.
func value(v float32) api.Pixel { return api.Pixel{v} }

func (r *reference) made(n api.Node, x, y int) api.Pixel {
	switch form := formOf(n.Op); {
	case len(form.In) == 0:
		return r.first(n, x, y)
	case form.Area:
		return r.areal(n, x, y)
	case len(form.In) > 1:
		return r.joined(n, x, y)
	}
	return r.changed(n, x, y, r.at(n.In[0], x, y))
}

// first is of operations into which nothing goes.
func (r *reference) first(n api.Node, x, y int) api.Pixel {
	switch n.Op {
	case "source":
		return nearestPixel(r.sources[n.Ints[0]], x, y)
	case "fill":
		return api.Pixel(n.Reals)
	}
	w, _ := key.Between(r.library.Windows[n.Ints[0]], r.number)
	v, _ := key.Window(w, x, y)
	return value(v)
}

// nearestPixel is the pixel of f to which the way is shortest.
func nearestPixel(f api.Frame, x, y int) api.Pixel {
	var found api.Pixel
	best := math.MaxInt
	for b := f.Y; b < f.Y+f.H; b++ {
		for a := f.X; a < f.X+f.W; a++ {
			if d := (a-x)*(a-x) + (b-y)*(b-y); d < best {
				best, found = d, pixelAt(f, a, b)
			}
		}
	}
	return found
}

// changed is of operations into which one thing goes.
func (r *reference) changed(n api.Node, x, y int, p api.Pixel) api.Pixel {
	l := n.Reals
	switch n.Op {
	case "grade":
		for _, g := range r.library.Grades[n.Ints[0]] {
			p, _ = grade.Apply(g, p)
		}
	case "cube":
		c := r.library.Cubes[n.Ints[0]]
		if n.Ints[1] == 1 {
			p, _ = cube.Tetra(c, p)
		} else {
			p, _ = cube.Linear(c, p)
		}
	case "convert":
		names := []string{"linear", "video", "cinema", "wide", "scene", "film"}
		from, _ := colour.Known(names[n.Ints[0]])
		to, _ := colour.Known(names[n.Ints[1]])
		f, _ := colour.Convert(api.Frame{Region: api.Region{W: 1, H: 1}, V: p[:]}, from, to)
		p = api.Pixel(f.V)
	case "saturate":
		p = colour.Saturate(videoWeights(), p, l[0])
	case "turn":
		p = colour.Turn(p, l[0])
	case "tone":
		for i := range 3 {
			p[i], _ = finish.Tone(api.Tone{Kind: n.Ints[0], A: l[0], B: l[1]}, p[i])
		}
	case "expose":
		p = finish.Expose(p, l[0])
	case "compress":
		p, _ = finish.Compress(p, l[0])
	case "grain":
		g := api.Grain{Seed: uint32(n.Ints[0]), Size: n.Ints[1], Strength: l[0], Fall: l[1], Mono: n.Ints[2] == 1}
		p, _ = finish.Grained(g, r.number, x, y, p)
	case "vignette":
		return vignetted(l, x, y, p)
	case "alpha":
		return value(p[3])
	case "luma":
		return value(key.Ramp(wantRamp(l), colour.Luma(videoWeights(), p)))
	case "hue":
		return value(key.Hue(api.HueKey{Centre: l[0], Width: l[1], Soft: l[2], Saturation: wantRamp(l[3:]), Value: wantRamp(l[6:])}, p))
	case "invert":
		return value(sub(1, p[0]))
	}
	return p
}

func wantRamp(l []float32) api.Ramp { return api.Ramp{Low: l[0], High: l[1], Soft: l[2]} }

func videoWeights() [3]float32 {
	s, _ := colour.Known("video")
	w, _ := colour.Weights(s.Primaries)
	return w
}

// vignetted is what the vignette with these numbers makes of a pixel.
func vignetted(l []float32, x, y int, p api.Pixel) api.Pixel {
	dx, dy := sub(float32(x), l[0]), sub(float32(y), l[1])
	far := float32(math.Sqrt(float64(add(mul(dx, dx), mul(dy, dy)))))
	light := num.Lerp(1, l[4], num.Smooth(div(sub(far, l[2]), sub(l[3], l[2]))))
	for i := range 3 {
		p[i] = mul(p[i], light)
	}
	return p
}

// joined is of operations into which several things go.
func (r *reference) joined(n api.Node, x, y int) api.Pixel {
	p, q := r.at(n.In[0], x, y), r.at(n.In[1], x, y)
	switch n.Op {
	case "cover":
		p[3] = q[0]
		return p
	case "meet":
		return value(met([]int{1: 5, 2: 6, 3: 3, 4: 7}[n.Ints[0]], p[0], q[0], 0))
	}
	made := p
	for i, v := range p {
		switch n.Op {
		case "mix":
			made[i] = num.Lerp(v, q[i], n.Reals[0])
		case "combine":
			made[i] = met(n.Ints[0], v, q[i], p[3])
		case "through":
			made[i] = num.Lerp(v, q[i], r.at(n.In[2], x, y)[0])
		}
	}
	return made
}

// met is what the operations of frame.Combine make.
func met(op int, a, b, s float32) float32 {
	switch op {
	case 1:
		return add(a, b)
	case 2:
		return sub(a, b)
	case 3:
		return mul(a, b)
	case 4:
		return div(a, b)
	case 5:
		if b < a {
			return b
		}
		return a
	case 6:
		if b > a {
			return b
		}
		return a
	case 7:
		return sub(1, mul(sub(1, a), sub(1, b)))
	}
	return add(a, mul(b, sub(1, s)))
}

// areal is of operations that look around.
func (r *reference) areal(n api.Node, x, y int) api.Pixel {
	by := distance(n)
	p := r.at(n.In[0], x, y)
	for i, v := range p {
		var square []float32
		for b := y - by; b <= y+by; b++ {
			for a := x - by; a <= x+by; a++ {
				square = append(square, r.at(n.In[0], a, b)[i])
			}
		}
		if n.Op != "sharpen" {
			p[i] = gathered(n.Op, square)
		} else if i < 3 {
			p[i] = sharpened(n.Reals, v, square)
		}
	}
	if formOf(n.Op).Out == api.OutMatte {
		return value(p[0])
	}
	return p
}

func sharpened(l []float32, c float32, square []float32) float32 {
	d := sub(c, gathered("blur", square))
	if magnitude(d) < l[1] {
		return c
	}
	return add(c, mul(d, l[0]))
}

// gathered is one value of many.
func gathered(op string, square []float32) float32 {
	v, same := square[0], true
	for _, w := range square[1:] {
		same = same && clean(w) == clean(square[0])
		if op == "spread" && w > v || op == "shrink" && w < v {
			v = w
		} else if op == "blur" || op == "feather" {
			v = add(v, w)
		}
	}
	switch {
	case op == "feather" && same:
		return square[0]
	case op == "blur" || op == "feather":
		return div(v, float32(len(square)))
	}
	return v
}
