package num

import (
	"cmp"
	"slices"

	"dyehouse/api"
)

// Sum is described in doc/01-num.md.
func Sum(l []float32) float32 {
	switch len(l) {
	case 0:
		return 0
	case 1:
		return Clean(l[0])
	}
	half := len(l) / 2
	return Clean(Sum(l[:half]) + Sum(l[half:]))
}

// Mean is described in doc/01-num.md.
func Mean(l []float32) (float32, api.Errno) {
	if len(l) == 0 {
		return 0, api.ErrEmpty
	}
	return Clean(Sum(l) / float32(len(l))), api.OK
}

// Middle is described in doc/01-num.md.
func Middle(l []float32) (float32, api.Errno) {
	if len(l) == 0 {
		return 0, api.ErrEmpty
	}
	sorted := slices.Clone(l)
	slices.SortStableFunc(sorted, func(a, b float32) int {
		return cmp.Compare(place(a), place(b))
	})
	return Clean(sorted[(len(l)-1)/2]), api.OK
}
