package finish_test

import (
	"math"
	"slices"
	"strings"
	"testing"

	"dyehouse/api"
	"dyehouse/finish"
)

// packedDepths are the depths that are packed.
func packedDepths() []int { return []int{8, 10, 16} }

// unpackedDepths are others.
func unpackedDepths() []int {
	l := badDepths()
	for depth := 1; depth < 16; depth++ {
		if depth != 8 && depth != 10 {
			l = append(l, depth)
		}
	}
	return l
}

func TestP143Pack(t *testing.T) {
	for _, c := range []struct {
		depth  int
		levels []int
		want   string
	}{
		{8, nil, ""}, {10, nil, ""}, {16, []int{}, ""},
		{8, []int{0}, "\x00"}, {8, []int{255, 0, 7}, "\xff\x00\x07"}, {8, []int{128, 127, 1, 254, 65}, "\x80\x7f\x01\xfeA"},
		{16, []int{0}, "\x00\x00"}, {16, []int{65535, 255, 256, 0x1234}, "\xff\xff\x00\xff\x01\x00\x12\x34"},
		{10, []int{0}, "\x00\x00\x00\x00"}, {10, []int{1023}, "\xff\xc0\x00\x00"}, {10, []int{0, 1023}, "\x00\x3f\xf0\x00"}, {10, []int{0, 0, 1023}, "\x00\x00\x0f\xfc"}, {10, []int{1, 2, 3}, "\x00\x40\x20\x0c"}, {10, []int{1023, 1023, 1023}, "\xff\xff\xff\xfc"},
		{10, []int{512, 512, 512, 512}, "\x80\x20\x08\x00\x80\x00\x00\x00"}, {10, []int{0x2aa, 0x155, 0x2aa, 1, 0x300}, "\xaa\x95\x5a\xa8\x00\x70\x00\x00"}, {10, []int{0, 0, 0, 0, 0, 0, 1}, strings.Repeat("\x00", 9) + "\x40\x00\x00"},
	} {
		got, e := finish.Pack(c.levels, c.depth)
		if got != c.want || e != api.OK {
			t.Errorf("Pack of %v: %q, error %d", c, got, e)
		}
		l, e := finish.Unpack(c.want, len(c.levels), c.depth)
		checkLevels(t, l, e, c.levels, "Unpack", c)
	}
}

// wantPacked is what Pack returns, for levels without errors, made of digits.
func wantPacked(l []int, depth int) string {
	var bits []byte
	for i, n := range l {
		for bit := depth - 1; bit >= 0; bit-- {
			bits = append(bits, byte(n>>bit&1))
		}
		if depth == 10 && i%3 == 2 {
			bits = append(bits, 0, 0)
		}
	}
	for depth == 10 && len(bits)%32 != 0 {
		bits = append(bits, 0)
	}
	var text strings.Builder
	for i := 0; i < len(bits); i += 8 {
		b := byte(0)
		for _, bit := range bits[i : i+8] {
			b = 2*b + bit
		}
		text.WriteByte(b)
	}
	return text.String()
}

func TestP143PackOfAll(t *testing.T) {
	m := mixer{}
	for n := range 300 {
		for _, depth := range packedDepths() {
			many := n % 50
			if n == 299 {
				many = 4 * api.MaxPixels
			}
			l := m.levels(many, depth)
			want := wantPacked(l, depth)
			got, e := finish.Pack(l, depth)
			if got != want || e != api.OK {
				t.Errorf("Pack of %d levels, depth %d: error %d", many, depth, e)
			}
			back, e := finish.Unpack(want, many, depth)
			checkLevels(t, back, e, l, "Unpack", depth)
		}
	}
}

func TestP143PackErrors(t *testing.T) {
	const most = 4 * api.MaxPixels
	for _, depth := range unpackedDepths() {
		for _, l := range [][]int{nil, {0}, {-1}, make([]int, most+1)} {
			got, e := finish.Pack(l, depth)
			refused(t, got, e, api.ErrKind, "Pack", depth)
		}
	}
	for _, depth := range packedDepths() {
		large := make([]int, most+1)
		for _, n := range []int{0, -1} {
			large[0] = n
			got, e := finish.Pack(large, depth)
			refused(t, got, e, api.ErrLarge, "Pack", depth)
		}
		for _, n := range append(badInts(), -1, 1<<depth, 1<<depth+1) {
			for i := range 5 {
				l := make([]int, 5)
				l[i] = n
				got, e := finish.Pack(l, depth)
				refused(t, got, e, api.ErrRange, "Pack", n, i, depth)
			}
		}
		got, e := finish.Pack(large[1:], depth)
		if want := wantPacked(large[1:], depth); got != want || e != api.OK {
			t.Error("Pack of as many as may be: error", e)
		}
	}
}

// lengthOf is how many bytes many levels have.
func lengthOf(many, depth int) int {
	if depth == 10 {
		return (many + 2) / 3 * 4
	}
	return many * depth / 8
}

func TestP143UnpackErrors(t *testing.T) {
	const most = 4 * api.MaxPixels
	for _, depth := range unpackedDepths() {
		for _, many := range []int{0, 3, -1, most + 1} {
			got, e := finish.Unpack("\x00\x00\x00", many, depth)
			refusedList(t, got, e, api.ErrKind, "Unpack", many, depth)
		}
	}
	for _, depth := range packedDepths() {
		for _, many := range append(badInts(), -1, -3, most+1) {
			for _, text := range []string{"", "\x00", "\x00\x00\x00\x00"} {
				got, e := finish.Unpack(text, many, depth)
				refusedList(t, got, e, api.ErrRange, "Unpack", many, depth)
			}
		}
		for many := range 10 {
			for long := range 30 {
				want := api.ErrForm
				if long == lengthOf(many, depth) {
					want = api.OK
				}
				got, e := finish.Unpack(strings.Repeat("\x00", long), many, depth)
				if e != want || want == api.OK && !slices.Equal(got, make([]int, many)) || want != api.OK && len(got) != 0 {
					t.Errorf("Unpack of %d levels of %d bytes, depth %d: %v, error %d", many, long, depth, got, e)
				}
			}
		}
		got, e := finish.Unpack("", math.MaxInt, depth)
		refusedList(t, got, e, api.ErrRange, "Unpack", depth)
		got, e = finish.Unpack(strings.Repeat("\x00", lengthOf(most, depth)), most, depth)
		checkLevels(t, got, e, make([]int, most), "Unpack", depth)
		got, e = finish.Unpack(strings.Repeat("\x00", lengthOf(most, depth)+1), most, depth)
		refusedList(t, got, e, api.ErrForm, "Unpack", depth)
	}
}

// Each bit of a text either belongs to a level, or has to be 0.
func TestP143UnpackBits(t *testing.T) {
	for _, depth := range packedDepths() {
		for many := range 8 {
			long := lengthOf(many, depth)
			for bit := range 8 * long {
				text := make([]byte, long)
				text[bit/8] = 0x80 >> (bit % 8)
				level, at := bit/depth, bit%depth
				spare := false
				if depth == 10 {
					level, at = 3*(bit/32)+bit%32/10, bit%32%10
					spare = bit%32 >= 30
				}
				got, e := finish.Unpack(string(text), many, depth)
				if spare || level >= many {
					refusedList(t, got, e, api.ErrForm, "Unpack", depth, many, bit)
					continue
				}
				want := make([]int, many)
				want[level] = 1 << (depth - 1 - at)
				checkLevels(t, got, e, want, "Unpack", depth, many, bit)
			}
		}
	}
}
