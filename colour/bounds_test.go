package colour_test

import (
	"math"
	"testing"

	"dyehouse/api"
	"dyehouse/colour"
)

// shares are numbers from 0 to 1, also very small ones, and hard ones of a
// transfer.
func shares(m *mixer, t api.Transfer) []float32 {
	l := []float32{0, minusZero(), 1, below(1), single(1), single(0x007fffff), single(0x00800000), 0.5}
	for _, end := range []float32{wantKnee(t), mul(wantKnee(t), t.C)} {
		l = append(l, end, above(end), below(above(end)))
	}
	for range 700 {
		l = append(l, m.between(0, 1), m.between(0, 0.01), single(m.next()%0x3f800001))
	}
	return l
}

func TestP56DecodeOfEncode(t *testing.T) {
	m := mixer{}
	l := []api.Transfer{linear(), known(t, "video").Transfer}
	for _, c := range transfers() {
		if c.Kind == api.TransferLog || c.Kind != api.TransferKnee && c.A <= 8 {
			l = append(l, c)
		}
	}
	for _, a := range []float32{0.125, 0.2, 1, 2.4, 8} {
		l = append(l, gamma(a), rational(a))
	}
	for _, c := range l {
		for _, v := range shares(&m, c) {
			if !(v >= 0 && v <= 1) {
				continue
			}
			w, _ := colour.Encode(c, v)
			back, _ := colour.Decode(c, w)
			if !(math.Abs(float64(back)-float64(v)) <= 0x1p-12) {
				t.Errorf("%v: Decode of Encode of %v: %v", c, v, back)
			}
		}
	}
}

// staysWhite tells of a matrix that does not map white to white.
func staysWhite(t *testing.T, m api.Matrix, e api.Errno, what ...any) {
	t.Helper()
	p := colour.Apply(m, api.Pixel{1, 1, 1, 1})
	if e != api.OK || !(farthest(p[:], []float32{1, 1, 1, 1}) <= 0x1p-20) {
		t.Errorf("%v: white becomes %v, error %d", what, p, e)
	}
}

func TestP56WhiteStaysWhite(t *testing.T) {
	for _, from := range knownSpaces() {
		for _, to := range knownSpaces() {
			m, e := colour.Between(from.Primaries, to.Primaries)
			staysWhite(t, m, e, "Between", from.Name, to.Name)
			other := with(from.Primaries, 3, to.White)
			m, e = colour.Between(from.Primaries, other)
			staysWhite(t, m, e, "Between", from.Name, "and its lights with the white of", to.Name)
		}
	}
}

func TestP56Saturate(t *testing.T) {
	m := mixer{}
	for i := range 20000 {
		scale := float32(math.Ldexp(1, i%240-130))
		p := pixel(func() float32 { return m.between(-1, 1) * scale })
		if i%5 == 0 {
			p[i%3] = 0x1p120
		}
		w := [3]float32{m.between(0, 1), m.between(0, 1), m.between(0, 1)}
		if i%7 == 0 {
			w[i%3] = m.plain()
		}
		q := colour.Saturate(w, p, 1)
		most := math.Abs(float64(colour.Luma(w, p)))
		for _, c := range p[:3] {
			most = max(most, math.Abs(float64(c)))
		}
		if !(farthest(p[:3], q[:3]) <= most*0x1p-21) || q[3] != p[3] {
			t.Errorf("Saturate(%v, %v, 1): %v", w, p, q)
		}
		if q = colour.Saturate(w, p, 0); q[0] != q[1] || q[1] != q[2] || q[0] != colour.Luma(w, p) || q[3] != p[3] {
			t.Errorf("Saturate(%v, %v, 0): %v", w, p, q)
		}
	}
}

func TestP56FromHSVOfToHSV(t *testing.T) {
	m := mixer{}
	back := func(p api.Pixel) {
		t.Helper()
		h, s, v := colour.ToHSV(p)
		q := colour.FromHSV(h, s, v, p[3])
		if !(farthest(p[:], q[:]) <= float64(v)*0x1p-19) {
			t.Errorf("FromHSV of ToHSV of %v: %v", p, q)
		}
	}
	for range 20000 {
		back(pixel(func() float32 { return m.between(0x1p-20, 1) }))
		back(pixel(func() float32 { return single((107+m.next()%40)<<23 | m.next()>>9) })) // from 2^-20 to 2^20
		grey, near := m.between(0.1, 1), m.next()%8
		back(pixel(func() float32 { return single(math.Float32bits(grey) + m.next()%(near+1)) }))
	}
	for _, r := range []float32{0x1p-20, 1, below(1), 0x1p20} {
		for _, g := range []float32{0x1p-20, 1, below(1), 0x1p20} {
			for _, b := range []float32{0x1p-20, 1, below(1), 0x1p20} {
				back(api.Pixel{r, g, b, 1})
			}
		}
	}
}
