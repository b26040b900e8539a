package count

import (
	"iter"
	"maps"
	"slices"

	"talisman/api"
	"talisman/lines"
)

// Bounds returns the least and the greatest sum that is possible by the degrees of the cells.
func Bounds(s api.System) (int, int, api.Errno) {
	if e := first(lines.CheckSystem(s), checkLines(s)); e != api.OK {
		return 0, 0, e
	}
	least, greatest := 0, 0
	for i, degree := range slices.Sorted(slices.Values(degreesOf(s))) {
		least += degree * (s.Cells - i)
		greatest += degree * (i + 1)
	}
	number := len(s.Lines)
	return (least + number - 1) / number, greatest / number, api.OK
}

// Total returns the number of all normal magic fillings.
func Total(s api.System) (int, api.Errno) {
	if e := checkSmall(s); e != api.OK {
		return 0, e
	}
	total := 0
	for range magicFillings(s) {
		total++
	}
	return total, api.OK
}

// Spectrum returns all sums of normal magic fillings, and how many have them.
func Spectrum(s api.System) ([][2]int, api.Errno) {
	if e := first(checkSmall(s), checkLines(s)); e != api.OK {
		return nil, e
	}
	counts := map[int]int{}
	for f := range magicFillings(s) {
		counts[sumOf(f, s.Lines[0])]++
	}
	var spectrum [][2]int
	for _, sum := range slices.Sorted(maps.Keys(counts)) {
		spectrum = append(spectrum, [2]int{sum, counts[sum]})
	}
	return spectrum, api.OK
}

// Fillings returns all normal magic fillings with a sum.
func Fillings(s api.System, sum int) ([][]int, api.Errno) {
	if e := checkSmall(s); e != api.OK {
		return nil, e
	}
	var found [][]int
	for f := range fillingsWith(s, sum) {
		if len(found) == MaxFound {
			return nil, api.ErrMany
		}
		found = append(found, slices.Clone(f))
	}
	return found, api.OK
}

// Distribution returns how often each number is in each cell.
func Distribution(s api.System, sum int) ([][]int, api.Errno) {
	if e := checkSmall(s); e != api.OK {
		return nil, e
	}
	counts := make([][]int, s.Cells)
	for cell := range counts {
		counts[cell] = make([]int, s.Cells)
	}
	for f := range fillingsWith(s, sum) {
		for cell, x := range f {
			counts[cell][x-1]++
		}
	}
	return counts, api.OK
}

// checkSmall returns the error of a system that is to be small.
func checkSmall(s api.System) api.Errno {
	return first(lines.CheckSystem(s), atMost(MaxWhole, s.Cells, api.ErrLimit))
}

// checkLines returns the error of a system that is to have lines.
func checkLines(s api.System) api.Errno {
	if len(s.Lines) == 0 {
		return api.ErrEmpty
	}
	return api.OK
}

// degreesOf returns the number of lines of each cell.
func degreesOf(s api.System) []int {
	degrees := make([]int, s.Cells)
	for _, line := range s.Lines {
		for _, cell := range line {
			degrees[cell]++
		}
	}
	return degrees
}

// fillingsWith gives out the normal magic fillings with a sum. Without lines it
// gives out all of them.
func fillingsWith(s api.System, sum int) iter.Seq[[]int] {
	return func(yield func([]int) bool) {
		for f := range magicFillings(s) {
			asked := len(s.Lines) == 0 || sumOf(f, s.Lines[0]) == sum
			if asked && !yield(f) {
				return
			}
		}
	}
}

// magicFillings gives out the normal magic fillings in lexicographic order. They
// are changed afterwards.
func magicFillings(s api.System) iter.Seq[[]int] {
	var earliest []int
	ending := make([][][]int, s.Cells)
	for _, line := range s.Lines {
		end := line[len(line)-1]
		ending[end] = append(ending[end], line)
		if earliest == nil || end < earliest[len(earliest)-1] {
			earliest = line
		}
	}
	return arrangements(s.Cells, func(beginning []int) bool {
		for _, line := range ending[len(beginning)-1] {
			if sumOf(beginning, line) != sumOf(beginning, earliest) {
				return false
			}
		}
		return true
	})
}

// sumOf returns the sum of the numbers in the cells of a line.
func sumOf(f, line []int) int {
	sum := 0
	for _, cell := range line {
		sum += f[cell]
	}
	return sum
}
