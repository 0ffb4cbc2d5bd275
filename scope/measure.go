package scope

import (
	"cmp"
	"math"
	"slices"

	"dyehouse/api"
	"dyehouse/frame"
	"dyehouse/num"
)

// standing is how many places v stands behind 0; a NaN stands behind all others.
func standing(v float32) int {
	n, both := num.Apart(0, v)
	if !both {
		return math.MaxInt
	}
	return n
}

// inOrder compares by standing.
func inOrder(a, b float32) int { return cmp.Compare(standing(a), standing(b)) }

// Extent is described in doc/08-scope.md.
func Extent(f api.Frame, channel int) (api.Extent, api.Errno) {
	l, e := values(f, channel)
	if e != api.OK {
		return api.Extent{}, e
	}
	some := slices.DeleteFunc(l, func(v float32) bool { return v != v })
	x := api.Extent{Out: len(l) - len(some)}
	if len(some) > 0 {
		x.Least, x.Greatest = slices.MinFunc(some, inOrder), slices.MaxFunc(some, inOrder)
		x.Mean, _ = num.Mean(some)
	}
	return x, api.OK
}

// Rank is described in doc/08-scope.md.
func Rank(f api.Frame, channel, part int) (float32, api.Errno) {
	l, e := values(f, channel)
	if e != api.OK {
		return 0, e
	}
	if !isWithin(part, 0, 100) {
		return 0, api.ErrRange
	}
	slices.SortFunc(l, inOrder)
	return l[(len(l)-1)*part/100], api.OK
}

// Odd is described in doc/08-scope.md.
func Odd(f api.Frame) (api.Odd, api.Errno) {
	if e := frame.Check(f); e != api.OK {
		return api.Odd{}, e
	}
	var many [api.KindNaN + 1]int
	for _, v := range f.V {
		many[num.Kind(v)]++
	}
	return api.Odd{
		Zero:     many[api.KindZero],
		Small:    many[api.KindSmall],
		Normal:   many[api.KindNormal],
		Infinite: many[api.KindInfinite],
		NaN:      many[api.KindNaN],
	}, api.OK
}
