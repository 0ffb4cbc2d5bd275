package scope_test

import (
	"strings"
	"testing"

	"dyehouse/api"
	"dyehouse/scope"
)

// wantSketch draws the bars of l one by one.
func wantSketch(l []int, height int) string {
	top := 0
	for _, n := range l {
		top = max(top, n)
	}
	lines := make([]string, height)
	for _, n := range l {
		for i := range lines {
			// The line i + 1 from below is filled, if n / top reaches (i + 1) / height.
			if top > 0 && float64(n)*float64(height) >= float64(i+1)*float64(top) {
				lines[height-1-i] += "#"
			} else {
				lines[height-1-i] += " "
			}
		}
	}
	text := ""
	for _, line := range lines {
		for strings.HasSuffix(line, " ") {
			line = line[:len(line)-1]
		}
		text += line + "\n"
	}
	return text
}

// checkSketch tells of a text that is not want.
func checkSketch(t *testing.T, c api.Counts, height int, want string) {
	t.Helper()
	got, e := scope.Sketch(c, height)
	if got != want || e != api.OK {
		t.Errorf("Sketch of %v with %d lines: %q, error %d, want %q", c, height, got, e, want)
	}
}

func TestP161Sketch(t *testing.T) {
	m := mixer{}
	for n := range 2000 {
		l, height := make([]int, m.from(1, 60)), n%64+1
		top := []int{1, 2, 64, 1000, 1 << 24}[m.below(5)]
		for i := range l {
			l[i] = m.from(0, top)
			switch m.below(8) {
			case 0:
				l[i] = 0
			case 1:
				l[i] = top * m.from(0, height) / height
			}
		}
		checkSketch(t, api.Counts{Bins: l, Below: m.below(9), Above: m.below(9), NaN: m.below(9)}, height, wantSketch(l, height))
	}
	for _, n := range []int{1, 2, 1023, 1024} {
		l := make([]int, n)
		for i := range l {
			l[i] = m.from(0, 1<<24)
		}
		checkSketch(t, api.Counts{Bins: l}, 64, wantSketch(l, 64))
	}
}

func TestP161SketchOfSome(t *testing.T) {
	for _, c := range []struct {
		bins   []int
		height int
		want   string
	}{
		{[]int{1, 4, 0, 2}, 2, " #\n # #\n"},
		{[]int{1, 4, 0, 2}, 4, " #\n #\n # #\n## #\n"},
		{[]int{1, 4, 0, 2}, 1, " #\n"},
		{[]int{4, 3, 2, 1, 0}, 3, "#\n##\n###\n"},
		{[]int{0}, 3, "\n\n\n"}, {[]int{0, 0, 0, 0}, 1, "\n"},
		{[]int{1}, 3, "#\n#\n#\n"}, {[]int{1 << 24}, 2, "#\n#\n"}, {[]int{0, 1, 1 << 24}, 2, "  #\n  #\n"},
		{[]int{0, 0, 7}, 1, "  #\n"}, {[]int{5, 5, 5}, 1, "###\n"},
		{[]int{1 << 24, 1<<23 - 1, 1 << 23}, 2, "#\n# #\n"},
		{[]int{64, 1, 0}, 64, strings.Repeat("#\n", 63) + "##\n"}, {[]int{65, 1, 0}, 64, strings.Repeat("#\n", 64)},
	} {
		checkSketch(t, api.Counts{Bins: c.bins}, c.height, c.want)
		// What is beyond the bins is not drawn.
		checkSketch(t, api.Counts{Bins: c.bins, Below: 100, Above: 1 << 30, NaN: -5}, c.height, c.want)
	}
}

func TestP161SketchErrors(t *testing.T) {
	refuse := func(l []int, height int, want api.Errno) {
		t.Helper()
		got, e := scope.Sketch(api.Counts{Bins: l}, height)
		refused(t, got, e, want, "Sketch", len(l), height)
	}
	heights := append(badInts(), 0, -1, 65, 128)
	for _, height := range append(heights, 8) {
		refuse(nil, height, api.ErrEmpty)
		refuse([]int{}, height, api.ErrEmpty)
		for _, n := range []int{1025, 1026, 5000} {
			refuse(make([]int, n), height, api.ErrLarge)
			l := make([]int, n)
			l[0], l[n-1] = -1, 1<<24+1
			refuse(l, height, api.ErrLarge)
		}
		for _, n := range append(badInts(), -1, 1<<24+1) {
			for i := range 3 {
				l := []int{1, 2, 3}
				l[i] = n
				refuse(l, height, api.ErrRange)
			}
		}
	}
	for _, height := range heights {
		refuse([]int{1, 2, 3}, height, api.ErrRange)
		refuse([]int{0}, height, api.ErrRange)
	}
}
