package cone

import (
	"slices"

	"talisman/api"
)

// Sum returns the sum of a filling.
func Sum(s api.System, f []int) (int, api.Errno) {
	if e := checkFilling(s, f); e != api.OK {
		return 0, e
	}
	return sumOf(s, f), api.OK
}

// Count returns the number of fillings with a sum.
func Count(s api.System, sum int) (int, api.Errno) {
	if e := first(CheckCone(s), checkLimit(sum)); e != api.OK {
		return 0, e
	}
	return planOf(s).number(sameRests(s, sum)), api.OK
}

// Positive returns the number of fillings without the number 0.
func Positive(s api.System, sum int) (int, api.Errno) {
	if e := first(CheckCone(s), checkLimit(sum)); e != api.OK {
		return 0, e
	}
	// Each cell has 1 at first, and so many more.
	start := sameRests(s, sum)
	p := planOf(s)
	for _, through := range p.through {
		start = start.less(1, through)
	}
	return p.number(start), api.OK
}

// List returns all fillings with a sum.
func List(s api.System, sum int) ([][]int, api.Errno) {
	if e := first(CheckCone(s), checkLimit(sum)); e != api.OK {
		return nil, e
	}
	p := planOf(s)
	layers := slices.Collect(p.layers(sameRests(s, sum)))
	if e := atMost(api.MaxList, layers[s.Cells][rests{}], api.ErrMany); e != api.OK {
		return nil, e
	}
	var list [][]int
	for f := range p.fillings(layers) {
		list = append(list, slices.Clone(f))
	}
	slices.SortFunc(list, slices.Compare[[]int])
	return list, api.OK
}
