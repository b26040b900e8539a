package cone

import (
	"slices"
	"testing"

	"talisman/algebra"
	"talisman/api"
)

func TestRayExamples(t *testing.T) { // P8.2
	for _, row := range []struct {
		what      string
		s         api.System
		rays      [][]int
		dimension int
	}{
		{"order 2", two(), [][]int{{0, 1, 1, 0}, {1, 0, 0, 1}}, 2},
		{"magic squares", magic(), [][]int{{0, 2, 1, 2, 1, 0, 1, 0, 2}, {1, 0, 2, 2, 1, 0, 0, 2, 1}, {1, 2, 0, 0, 1, 2, 2, 0, 1}, {2, 0, 1, 0, 1, 2, 1, 2, 0}}, 3},
		{"order 3", three(), [][]int{{0, 0, 1, 0, 1, 0, 1, 0, 0}, {0, 0, 1, 1, 0, 0, 0, 1, 0}, {0, 1, 0, 0, 0, 1, 1, 0, 0}, {0, 1, 0, 1, 0, 0, 0, 0, 1}, {1, 0, 0, 0, 0, 1, 0, 1, 0}, {1, 0, 0, 0, 1, 0, 0, 0, 1}}, 5},
		{"a cell that is 0", system(2, []int{0}, []int{0, 1}), [][]int{{1, 0}}, 1},
		{"a sum and its double", system(4, []int{0, 1}, []int{2, 3}, []int{0, 1, 2, 3}), nil, 0},
		{"even sums in a cell", system(4, []int{0, 1}, []int{0, 2}, []int{1, 2}, []int{3}), [][]int{{1, 1, 1, 2}}, 1},
		{"one line", system(2, []int{0, 1}), [][]int{{0, 1}, {1, 0}}, 2},
		{"one cell", system(1, []int{0}), [][]int{{1}}, 1},
		{"a cell a line", system(12, subsets(12)...), [][]int{repeat(1, 12)}, 1},
	} {
		r, e := Rays(row.s)
		wantList(t, "Rays of "+row.what, r, e, row.rays, api.OK)
		n, e := Dimension(row.s)
		wantNumber(t, "Dimension of "+row.what, n, e, row.dimension, api.OK)
	}
	for _, row := range []struct {
		s  api.System
		f  []int
		is bool
	}{
		{two(), []int{0, 1, 1, 0}, true},
		{two(), []int{0, 2, 2, 0}, false},
		{two(), []int{0, 0, 0, 0}, false},
		{two(), []int{1, 1, 1, 1}, false},
		{two(), []int{2, 1, 1, 2}, false},
		{two(), []int{0, 999999999, 999999999, 0}, false},
		{magic(), repeat(1, 9), false},
		{magic(), []int{0, 2, 1, 2, 1, 0, 1, 0, 2}, true},
		{system(3, []int{0, 1}, []int{0, 2}, []int{1, 2}), repeat(1, 3), true},
		{system(3, []int{0, 1}, []int{0, 2}, []int{1, 2}), repeat(2, 3), false},
	} {
		is, e := IsRay(row.s, row.f)
		wantTruth(t, "IsRay", is, e, row.is, api.OK)
	}
}

// isMultiple reports whether g is a multiple of f by a rational number.
func isMultiple(g, f []int) bool {
	for i := range f {
		for k := range f {
			if g[i]*f[k] != g[k]*f[i] {
				return false
			}
		}
	}
	return true
}

// isRayOf is the definition of rays, for all fillings of a list.
func isRayOf(all [][]int, f []int) bool {
	divisor := 0
	for _, x := range f {
		divisor, _ = algebra.Gcd(divisor, x)
	}
	for _, g := range all {
		isWithin := true
		for i, x := range f {
			isWithin = isWithin && (x > 0 || g[i] == 0)
		}
		if isWithin && !isMultiple(g, f) {
			return false
		}
	}
	return divisor == 1
}

// rankOf returns the number of independent fillings.
func rankOf(list [][]int) int {
	var rows [][]api.Rat
	for _, f := range list {
		var row []api.Rat
		for _, x := range f {
			number, _ := algebra.Of(x, 1)
			row = append(row, number)
		}
		rows, _ = algebra.Echelon(append(rows, row))
	}
	return len(rows)
}

func TestRays(t *testing.T) { // P8.2: compared with all fillings
	several := 0
	for _, s := range someSystems(95, 150, 6) {
		all := fillingsOf(s, 5)
		var wanted [][]int
		for _, f := range all {
			isRay := isRayOf(all, f)
			if isRay {
				wanted = append(wanted, f)
			}
			is, e := IsRay(s, f)
			wantTruth(t, "IsRay", is, e, isRay, api.OK)
		}
		r, e := Rays(s)
		small := slices.DeleteFunc(slices.Clone(r), func(f []int) bool { return total(f, s.Lines[0]) > 5 })
		wantList(t, "Rays", small, e, wanted, api.OK)
		n, e := Dimension(s)
		wantNumber(t, "Dimension", n, e, rankOf(all), api.OK)
		if len(r) > 2 {
			several++
		}
	}
	want(t, "several rays happened", several > 20, true)
}
