package cube_test

import (
	"math"
	"testing"

	"dyehouse/api"
	"dyehouse/cube"
)

// Where t of all three is a whole number, both ways give the entry there.
func TestP89EntriesAtTheirPlaces(t *testing.T) {
	m := mixer{}
	for _, size := range []int{2, 3, 5, 9, 17} {
		for _, ends := range [][2]float32{{0, 1}, {0, 2}, {-1, 1}, {-maxEnd, maxEnd}, {0, 0x1p-120}} {
			c := cubeOf(size, ends[0], ends[1], m.wild)
			place := func(n int) float32 { return ends[0] + (ends[1]-ends[0])*float32(n)/float32(size-1) }
			for n := range size * size * size {
				i, j, k := n%size, n/size%size, n/size/size
				v := at(c, i, j, k)
				for how, way := range ways() {
					q, e := way.call(c, api.Pixel{place(i), place(j), place(k), 1})
					checkPixel(t, q, api.Pixel{v[0], v[1], v[2], 1}, "way", how, size, ends, i, j, k)
					checkError(t, e, api.OK, "way", how)
				}
			}
		}
	}
}

// Both ways stay between the least and the greatest entry of a cell, but for
// 2^-20 of the greatest magnitude.
func TestP89StaysWithinTheCell(t *testing.T) {
	m := mixer{}
	for i := range 30000 {
		scale := float32(math.Ldexp(1, i%221-100))
		low, high := m.between(-1, 1), m.between(-1, 1)
		if i%4 == 0 {
			low, high = 1, m.between(0.9999, 1) // near each other
		}
		c := cubeOf(2, 0, 1, func() float32 {
			if m.below(3) == 0 {
				return low * scale // many at an end
			}
			return m.between(low, high) * scale
		})
		p := api.Pixel{m.between(-0.1, 1.1), m.between(-0.1, 1.1), m.between(-0.1, 1.1), 0}
		if i%5 == 0 {
			p = api.Pixel{below(1), below(1), m.share(), 0}
		}
		for channel := range 3 {
			least, most := math.Inf(1), math.Inf(-1)
			for n := channel; n < 24; n += 3 {
				least, most = min(least, float64(c.V[n])), max(most, float64(c.V[n]))
			}
			magnitude := max(-least, most)
			if magnitude < 0x1p-100 {
				continue
			}
			for how, way := range ways() {
				q, _ := way.call(c, p)
				v := float64(q[channel])
				if !(v >= least-magnitude*0x1p-20 && v <= most+magnitude*0x1p-20) {
					t.Errorf("way %d of %v in %v: %v", how, p, c.V, q)
				}
			}
		}
	}
}

// A cube of shares with an identity behind it is the cube, but for 2^-20.
func TestP96ComposeWithIdentity(t *testing.T) {
	m := mixer{}
	for size := 2; size <= 17; size++ {
		id, _ := cube.Identity(size)
		for i := range 20 {
			c := m.cube(m.share)
			if i%4 == 0 {
				c = m.cube(func() float32 { return []float32{0, 1, below(1), single(1), minusZero(), m.share()}[m.below(6)] })
			}
			d, e := cube.Compose(c, id)
			checkError(t, e, api.OK, "Compose")
			if far, e := cube.Apart(c, d); !(far <= 0x1p-20) || e != api.OK {
				t.Errorf("Compose with the identity of size %d: %v apart, error %d", size, far, e)
			}
		}
	}
}

func TestP96BlendOfEnds(t *testing.T) {
	m := mixer{}
	for range 200 {
		a := m.cube(m.odd)
		b := cubeOf(a.Size, a.Low, a.High, m.odd)
		for share, want := range map[float32]api.Cube{0: a, 1: b} {
			c, e := cube.Blend(a, b, share)
			checkCube(t, c, e, a, a.Size, want.V, "Blend", share)
		}
	}
}

func TestP96ParseOfPrint(t *testing.T) {
	m := mixer{}
	for i := range 300 {
		c := m.cube(m.wild)
		if i%30 == 0 {
			c = cubeOf(17, c.Low, c.High, func() float32 { return single(m.next()) })
		}
		text, e := cube.Print(c)
		checkError(t, e, api.OK, "Print")
		checkRead(t, text, c)
	}
}

func TestP96SmoothedOfEqualEntries(t *testing.T) {
	for n := range 65 {
		for size := 2; size <= 5; size++ {
			c := cubeOf(size, 0, 1, func() float32 { return float32(n) / 64 })
			for times := range 9 {
				d, e := cube.Smoothed(c, times)
				checkCube(t, d, e, c, size, c.V, "Smoothed", n, size, times)
			}
		}
	}
}

// Cubes of sizes 2, 3 and 5 from 0 to 1 or 2 give their entries at their places,
// also those that Resize reckons.
func TestP283EntriesAtTheirPlaces(t *testing.T) {
	m := mixer{}
	for _, size := range []int{2, 3, 5} {
		for _, high := range []float32{1, 2} {
			c := cubeOf(size, 0, high, m.wild)
			d, e := cube.Resize(c, size)
			checkCube(t, d, e, c, size, c.V, "Resize", size, high)
		}
	}
}

// Where all entries are grey numbers, the colours of the grey axis are grey.
func TestP284GreyStaysGrey(t *testing.T) {
	m := mixer{}
	for range 300 {
		c := m.cube(m.plain)
		for i := 0; i < len(c.V); i += 3 {
			c.V[i+1], c.V[i+2] = c.V[i], c.V[i]
		}
		for range 50 {
			v := m.value(c)
			for how, way := range ways() {
				q, e := way.call(c, api.Pixel{v, v, v, 1})
				checkPixel(t, q, api.Pixel{q[0], q[0], q[0], 1}, "way", how, v)
				checkError(t, e, api.OK, "way", how)
			}
		}
	}
}
