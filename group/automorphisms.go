package group

import (
	"slices"

	"talisman/api"
	"talisman/lines"
)

// maxSearched is the greatest number of cells that Automorphisms takes on.
const maxSearched = 9

// Keeps reports whether a symmetry moves lines to lines.
func Keeps(s api.System, a api.Symmetry) (bool, api.Errno) {
	if e := first(lines.CheckSystem(s), CheckSymmetry(a, s.Cells)); e != api.OK {
		return false, e
	}
	return keeperOf(s)(a.Cells, s.Lines), api.OK
}

// Automorphisms returns all permutations of cells that keep a system.
func Automorphisms(s api.System) ([]api.Symmetry, api.Errno) {
	if e := lines.CheckSystem(s); e != api.OK {
		return nil, e
	}
	if s.Cells > maxSearched {
		return nil, api.ErrLimit
	}
	found := automorphisms(s)
	if len(found) > api.MaxGroup {
		return nil, api.ErrMany
	}
	return results(found...), api.OK
}

// keeperOf returns the test whether some lines of a system move to lines of it.
// The test is given the cell to which each cell of these lines moves.
func keeperOf(s api.System) func(to []int, some [][]int) bool {
	isLine := map[string]bool{}
	for _, line := range s.Lines {
		isLine[textOf(line)] = true
	}
	return func(to []int, some [][]int) bool {
		image := func(line []int) []int {
			cells := make([]int, len(line))
			for i, cell := range line {
				cells[i] = to[cell]
			}
			slices.Sort(cells)
			return cells
		}
		for _, line := range some {
			if !isLine[textOf(image(line))] {
				return false
			}
		}
		return true
	}
}

// automorphisms returns the permutations of cells that keep a system, in
// ascending order; it stops behind MaxGroup of them. It searches where the first
// cells move to, and looks at a line as soon as this is known of its last cell.
func automorphisms(s api.System) []symmetry {
	endingAt := make([][][]int, s.Cells)
	for _, line := range s.Lines {
		last := line[len(line)-1]
		endingAt[last] = append(endingAt[last], line)
	}
	keeps := keeperOf(s)
	var found []symmetry
	to := []int{-1}
search:
	for len(to) > 0 {
		cell := len(to) - 1
		for to[cell]++; to[cell] < s.Cells; to[cell]++ {
			if slices.Contains(to[:cell], to[cell]) || !keeps(to, endingAt[cell]) {
				continue
			}
			if len(to) < s.Cells {
				to = append(to, -1)
				continue search
			}
			found = append(found, symmetry{Cells: slices.Clone(to)})
			if len(found) > api.MaxGroup {
				break search
			}
		}
		to = to[:cell]
	}
	return found
}
