package node

import "dyehouse/api"

// tileSide is the side of the tiles in which values are made: grown by MaxReach
// on each side, they are still regions of frames.
const tileSide = 96

// grown returns the region that is n larger on each side. Here and below regions
// may be larger than those of frames, and reach up to MaxPlace.
func grown(r api.Region, n int) api.Region {
	return api.Region{X: r.X - n, Y: r.Y - n, W: r.W + 2*n, H: r.H + 2*n}
}

// common returns the places that both have, and whether there are any.
func common(a, b api.Region) (api.Region, bool) {
	left, top := max(a.X, b.X), max(a.Y, b.Y)
	right, bottom := min(a.X+a.W, b.X+b.W), min(a.Y+a.H, b.Y+b.H)
	return api.Region{X: left, Y: top, W: right - left, H: bottom - top}, left < right && top < bottom
}

// tilesOf returns tiles that have all places of r.
func tilesOf(r api.Region) []api.Region {
	var tiles []api.Region
	for y := r.Y; y < r.Y+r.H; y += tileSide {
		for x := r.X; x < r.X+r.W; x += tileSide {
			tile, _ := common(r, api.Region{X: x, Y: y, W: tileSide, H: tileSide})
			tiles = append(tiles, tile)
		}
	}
	return tiles
}

// piece has what a node has at the places of a region, row by row: of a picture
// four singles for each, of a matte one.
type piece struct {
	api.Region
	v []float32
}

// row returns the singles of w places, from (x, y) on.
func (p piece) row(x, y, w int) []float32 {
	many := len(p.v) / (p.W * p.H)
	from := many * ((y-p.Y)*p.W + x - p.X)
	return p.v[from : from+many*w]
}

// cut returns a part, perhaps with the same memory.
func (p piece) cut(r api.Region) piece {
	if r == p.Region {
		return p
	}
	part := piece{Region: r}
	for y := r.Y; y < r.Y+r.H; y++ {
		part.v = append(part.v, p.row(r.X, y, r.W)...)
	}
	return part
}

// paste puts a part in.
func (p piece) paste(part piece) {
	for y := part.Y; y < part.Y+part.H; y++ {
		copy(p.row(part.X, y, part.W), part.row(part.X, y, part.W))
	}
}

// course says how the values of a node in a region are made: kernel by kernel.
type course struct {
	plan
	scene
	result  int // whose values are asked for
	cut     []int
	far     []int   // how far around the region each node is needed
	stored  []bool  // which nodes have values that other kernels read
	kernels [][]int // the nodes of each kernel that are needed
}

// courseOf returns the course for the values of a node, with a cut of the graph
// that has no error.
func courseOf(p plan, s scene, result int, cut []int) course {
	c := course{plan: p, scene: s, result: result, cut: cut, far: p.around(result), stored: p.crossing(cut)}
	c.stored[result] = true
	c.kernels = make([][]int, api.MaxSteps)
	for i, kernel := range cut {
		if c.far[i] >= 0 {
			c.kernels[kernel] = append(c.kernels[kernel], i)
		}
	}
	return c
}

// over returns the values in a region.
func (c course) over(r api.Region) piece {
	many := len(c.Nodes)
	run := run{course: c, region: r, kept: make([]piece, many), made: make([]piece, many)}
	for _, kernel := range c.kernels {
		if len(kernel) > 0 {
			run.kernel(kernel)
		}
	}
	return run.kept[c.result]
}

// run follows a course in a region.
type run struct {
	course
	region api.Region
	kept   []piece // the values of nodes that are stored
	made   []piece // those that nodes of the kernel have in the tile
}

// needed is the region in which a node is needed.
func (r *run) needed(node int) api.Region { return grown(r.region, r.far[node]) }

// kernel makes what is stored of the nodes of a kernel, tile by tile.
func (r *run) kernel(nodes []int) {
	widest := 0
	for _, i := range nodes {
		widest = max(widest, r.far[i])
		if r.stored[i] {
			region := r.needed(i)
			r.kept[i] = piece{region, make([]float32, r.ops[i].singles()*region.W*region.H)}
		}
	}
	for _, tile := range tilesOf(grown(r.region, widest)) {
		for _, i := range nodes {
			if part, some := common(tile, r.needed(i)); some {
				r.evaluate(i, part)
			}
		}
	}
}

// evaluate makes the values of a node in a part of a tile. Those of nodes of its
// kernel that go into it have just been made there.
func (r *run) evaluate(node int, part api.Region) {
	n, o := r.Nodes[node], r.ops[node]
	w := work{Region: part, scene: r.scene, node: n}
	for _, from := range n.In {
		all := r.made[from]
		if r.cut[from] != r.cut[node] {
			all = r.kept[from]
		}
		w.in = append(w.in, all.cut(grown(part, o.distance(n))))
	}
	r.made[node] = piece{part, o.value(w)}
	if r.stored[node] {
		r.kept[node].paste(r.made[node])
	}
}
