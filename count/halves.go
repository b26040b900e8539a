package count

import (
	"maps"
	"slices"

	"talisman/api"
	"talisman/lines"
)

// mostTallied is the greatest number of fillings of a half.
const mostTallied = 100000

// Bounded returns the number of bounded fillings with a sum.
func Bounded(s api.System, most, sum int) (int, api.Errno) {
	half := s.Cells / 2
	if e := checkHalf(s, most, s.Cells-half); e != api.OK {
		return 0, e
	}
	if len(s.Lines) > 0 && within(0, most*s.Cells, sum) != api.OK {
		return 0, api.OK
	}
	others := tally(s, half, s.Cells, most)
	number := 0
	for list, times := range tally(s, 0, half, most) {
		if rest, isRest := list.upTo(sum, len(s.Lines)); isRest {
			number += times * others[rest]
		}
	}
	return number, api.OK
}

// Halves returns what bounded fillings of the first cells contribute to the lines.
func Halves(s api.System, cut, most int) ([][]int, []int, api.Errno) {
	if e := checkHalf(s, most, cut); e != api.OK {
		return nil, nil, e
	}
	tallied := tally(s, 0, cut, most)
	var lists [][]int
	var numbers []int
	for _, list := range slices.SortedFunc(maps.Keys(tallied), contribution.compare) {
		lists = append(lists, list.numbers(len(s.Lines)))
		numbers = append(numbers, tallied[list])
	}
	return lists, numbers, api.OK
}

// checkHalf returns the error of a half with some cells of a system.
func checkHalf(s api.System, most, cells int) api.Errno {
	e := first(lines.CheckSystem(s), atMost(api.MaxSearch, s.Cells, api.ErrLimit), within(0, 9, most), within(0, s.Cells, cells))
	if e != api.OK {
		return e
	}
	number := 1
	for range cells {
		number *= most + 1
	}
	return atMost(mostTallied, number, api.ErrLimit)
}

// contribution has what numbers contribute to each line. No line has more than
// MaxSearch numbers, and none of them is above 9.
type contribution [api.MaxLines]uint8

// tally returns how many bounded fillings of the cells from one on, and up to
// another one, contribute each list.
func tally(s api.System, from, to, most int) map[contribution]int {
	tallied := map[contribution]int{{}: 1}
	for cell := from; cell < to; cell++ {
		through := linesThrough(s, cell)
		longer := map[contribution]int{}
		for list, times := range tallied {
			for digit := range most + 1 {
				longer[list.plus(digit, through)] += times
			}
		}
		tallied = longer
	}
	return tallied
}

// linesThrough returns the numbers of the lines on which a cell is.
func linesThrough(s api.System, cell int) []int {
	var through []int
	for k, line := range s.Lines {
		if slices.Contains(line, cell) {
			through = append(through, k)
		}
	}
	return through
}

// plus returns the contribution together with that of a number on some lines.
func (c contribution) plus(x int, through []int) contribution {
	for _, k := range through {
		c[k] += uint8(x)
	}
	return c
}

// upTo returns what is missing up to the sum in each of so many lines, and
// whether no line has more than the sum.
func (c contribution) upTo(sum, number int) (contribution, bool) {
	var rest contribution
	for k := range number {
		if int(c[k]) > sum {
			return contribution{}, false
		}
		rest[k] = uint8(sum - int(c[k]))
	}
	return rest, true
}

// numbers returns what is contributed to each of so many lines.
func (c contribution) numbers(number int) []int {
	list := make([]int, number)
	for k := range list {
		list[k] = int(c[k])
	}
	return list
}

func (c contribution) compare(d contribution) int {
	return slices.Compare(c[:], d[:])
}
