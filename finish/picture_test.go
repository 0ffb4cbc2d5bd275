package finish_test

import (
	"strconv"
	"strings"
	"testing"

	"dyehouse/api"
	"dyehouse/finish"
)

func TestP144Picture(t *testing.T) {
	f := api.Frame{Region: api.Region{X: 8, Y: -16, W: 2, H: 3}, V: []float32{
		0, 0.5, 1, 9, 2, -1, oddNaN(), 0,
		infinity(), -infinity(), 10.0 / 255, 0, 32.0 / 255, 254.0 / 255, 80.0 / 255, 1,
		minusZero(), 0.25, 0.75, 1, 1.0 / 255, 2.0 / 255, 3.0 / 255, oddNaN(),
	}}
	got, e := finish.Picture(f, api.DitherNone, 0)
	if want := "P6\n2 3\n255\n\x00\x80\xff\xff\x00\x00\xff\x00\x0a\x20\xfeP\x00\x40\xbf\x01\x02\x03"; got != want || e != api.OK {
		t.Errorf("Picture: %q, error %d, want %q", got, e, want)
	}
	m := mixer{}
	for n := range 300 {
		f, how, seed := frameOf(m.region(), m.rare), n%3, m.next()
		if n == 299 {
			f = frameOf(api.Region{W: 256, H: 64}, m.share)
		}
		var want strings.Builder
		want.WriteString("P6\n" + strconv.Itoa(f.W) + " " + strconv.Itoa(f.H) + "\n255\n")
		for i, v := range f.V {
			if i%4 < 3 {
				offset := wantOffset(how, seed, f.X+i/4%f.W, f.Y+i/4/f.W, i%4)
				want.WriteByte(byte(wantLevel(v, offset, 8)))
			}
		}
		got, e := finish.Picture(f, how, seed)
		if got != want.String() || e != api.OK {
			t.Errorf("Picture of %v, dithered by %d: %q, error %d", f, how, got, e)
		}
	}
}

func TestP144PictureErrors(t *testing.T) {
	for _, c := range badFrames() {
		for _, how := range []int{0, 7} {
			got, e := finish.Picture(c.frame, how, 0)
			refused(t, got, e, c.error, "Picture", c.frame.Region, how)
		}
	}
	for _, how := range badKinds() {
		got, e := finish.Picture(row(1, 2), how, 0)
		refused(t, got, e, api.ErrKind, "Picture", how)
	}
}

// picture is the text of w * h pixels of these bytes, in turn.
func picture(w, h int, bytes string) string {
	return "P6\n" + strconv.Itoa(w) + " " + strconv.Itoa(h) + "\n255\n" + strings.Repeat(bytes, 3*w*h/len(bytes))
}

func TestP144ReadPicture(t *testing.T) {
	got, e := finish.ReadPicture("P6\n2 1\n255\n\x00\xff\x80\n \x01")
	checkFrame(t, got, e, api.Region{W: 2, H: 1}, []float32{0, 1, 128.0 / 255, 1, 10.0 / 255, 32.0 / 255, 1.0 / 255, 1}, "ReadPicture")
	got, e = finish.ReadPicture("P6\n1 2\n255\nP6\n255")
	checkFrame(t, got, e, api.Region{W: 1, H: 2}, []float32{80.0 / 255, 54.0 / 255, 10.0 / 255, 1, 50.0 / 255, 53.0 / 255, 53.0 / 255, 1}, "ReadPicture")
	m := mixer{}
	for n := range 300 {
		w, h := m.from(1, 12), m.from(1, 12)
		switch n {
		case 0:
			w, h = 256, 1
		case 1:
			w, h = 1, 256
		case 2:
			w, h = 128, 128
		case 3:
			w, h = 100, 109
		}
		bytes := make([]byte, 3*w*h)
		var want []float32
		for i := range bytes {
			bytes[i] = byte(m.next())
			want = append(want, div(float32(bytes[i]), 255))
			if i%3 == 2 {
				want = append(want, 1)
			}
		}
		got, e := finish.ReadPicture(picture(w, h, string(bytes)))
		checkFrame(t, got, e, api.Region{W: w, H: h}, want, "ReadPicture", w, h)
	}
}

func TestP144ReadPictureSyntax(t *testing.T) {
	const good, bytes = "P6\n2 1\n255\n", "abcdef"
	texts := []string{
		"", "P6", "P6\n", "P6\n2 1", "P6\n2 1\n", "P6\n2 1\n255", good, good + "abcde", good + bytes + "g", good + bytes + "\n", good + bytes + bytes, " " + good + bytes, "\n" + good + bytes, "2 1\n255\n" + bytes, "P6\n255\n" + bytes, "P6\n2 1\n" + bytes,
		picture(257, 1, "a"), picture(1, 257, "a"), picture(300, 300, "a"), "P6\n0 1\n255\n", "P6\n1 0\n255\n", "P6\n0 0\n255\n", "P6\n-1 -1\n255\nabc", "P6\n-2 -1\n255\n" + bytes, "P6\n99999999999999999999 1\n255\n" + bytes, "P6\n4294967298 1\n255\n" + bytes, "P6\n9223372036854775807 9223372036854775807\n255\nabc",
	}
	for _, first := range []string{"P5", "P3", "p6", "P6 ", " P6", "P 6", "P6\r", "P6\n", "P6#", "P", "6", "", "P06"} {
		texts = append(texts, first+"\n2 1\n255\n"+bytes)
	}
	for _, second := range []string{"2", "2 ", " 2 1", "2 1 ", "2  1", "2\t1", "2\n1", "2 1\r", "2,1", "2x1", "02 1", "2 01", "+2 1", "2 +1", "-2 1", "2 -1", "2 1.0", "2. 1", "2 1 1", "2_ 1", "2 0x1", "2 1e0", "", " ", "a b", "2 1#", "1 2 ", "２ 1"} {
		texts = append(texts, "P6\n"+second+"\n255\n"+bytes)
	}
	for _, third := range []string{"256", "254", "0255", "+255", "255 ", " 255", "255.0", "2550", "255\r", "255\n", "65535", "25", "", "1"} {
		texts = append(texts, "P6\n2 1\n"+third+"\n"+bytes)
	}
	for _, text := range texts {
		got, e := finish.ReadPicture(text)
		refusedFrame(t, got, e, api.ErrSyntax, "ReadPicture", text[:min(len(text), 40)])
	}
	got, e := finish.ReadPicture(good + bytes)
	checkError(t, e, api.OK, "ReadPicture", got)
}

func TestP144ReadPictureErrors(t *testing.T) {
	large := strings.Repeat("x", api.MaxText+1)
	for _, text := range []string{large, "P6\n1 1\n255\n" + large, picture(256, 256, "abc") + large} {
		got, e := finish.ReadPicture(text)
		refusedFrame(t, got, e, api.ErrLarge, "ReadPicture of too many bytes")
	}
	got, e := finish.ReadPicture(large[1:])
	refusedFrame(t, got, e, api.ErrSyntax, "ReadPicture of as many bytes as may be")
	// As many pixels as no region has: but first all bytes have to be there.
	for _, side := range [][2]int{{256, 256}, {129, 128}, {65, 256}, {256, 65}} {
		text := picture(side[0], side[1], "abc")
		got, e := finish.ReadPicture(text)
		refusedFrame(t, got, e, api.ErrLarge, "ReadPicture", side)
		for _, text := range []string{text[1:], text[:len(text)-1], text + "a"} {
			got, e := finish.ReadPicture(text)
			refusedFrame(t, got, e, api.ErrSyntax, "ReadPicture", side)
		}
	}
}
