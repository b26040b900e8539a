package cone

import (
	"math/rand"
	"reflect"
	"slices"
	"testing"

	"talisman/api"
)

// want reports a result that is not the wanted one.
func want(t *testing.T, what string, got, wanted any) {
	t.Helper()
	if !reflect.DeepEqual(got, wanted) {
		t.Errorf("%s: got %v, want %v", what, got, wanted)
	}
}

// wantList is want for a list and its error: nil and empty lists are equal.
func wantList[T any](t *testing.T, what string, got []T, e api.Errno, wanted []T, code api.Errno) {
	t.Helper()
	want(t, "error of "+what, e, code)
	if len(got) > 0 || len(wanted) > 0 {
		want(t, what, got, wanted)
	}
}

// wantNumber is want for a number and its error.
func wantNumber(t *testing.T, what string, got int, e api.Errno, wanted int, code api.Errno) {
	t.Helper()
	want(t, what, []any{got, e}, []any{wanted, code})
}

// wantTruth is want for a truth value and its error.
func wantTruth(t *testing.T, what string, got bool, e api.Errno, wanted bool, code api.Errno) {
	t.Helper()
	want(t, what, []any{got, e}, []any{wanted, code})
}

// system returns a system of some cells and lines.
func system(cells int, lines ...[]int) api.System {
	return api.System{Cells: cells, Lines: lines}
}

// two and three return the rows and columns of squares of order 2 and 3, magic these and both diagonals.
func two() api.System {
	return system(4, []int{0, 1}, []int{2, 3}, []int{0, 2}, []int{1, 3})
}

func three() api.System {
	return system(9, []int{0, 1, 2}, []int{3, 4, 5}, []int{6, 7, 8}, []int{0, 3, 6}, []int{1, 4, 7}, []int{2, 5, 8})
}

func magic() api.System {
	return system(9, append(three().Lines, []int{0, 4, 8}, []int{2, 4, 6})...)
}

// exact, more and most return systems with 256, 257 and 7776 irreducible fillings.
func exact() api.System {
	return system(12, []int{4, 5, 7, 8, 10}, []int{1, 2, 3, 4, 5, 9, 11}, []int{0, 1, 6, 7, 9, 10}, []int{0, 2, 3, 6, 7, 9}, []int{0, 4, 5, 6, 7, 11}, []int{7, 8, 10, 11})
}

func more() api.System {
	return system(12, []int{3, 4, 6, 8, 11}, []int{1, 2, 3, 7, 11}, []int{0, 4, 6, 7, 10}, []int{1, 4, 5, 6, 9, 10, 11}, []int{0, 3, 5, 7, 9, 10}, []int{2, 4, 5, 6, 7, 9})
}

func most() api.System {
	return system(12, []int{1, 4, 7}, []int{0, 5, 7, 9, 10, 11}, []int{0, 2, 4, 5, 6, 8, 10}, []int{2, 6, 7, 8, 9, 11}, []int{3, 4, 9, 10, 11}, []int{0, 2, 3, 4, 5, 8}, []int{2, 3, 7, 8, 10}, []int{0, 3, 5, 6, 7, 10})
}

func repeat(x, n int) []int {
	return slices.Repeat([]int{x}, n)
}

func upTo(n int) []int {
	list := make([]int, n)
	for i := range list {
		list[i] = i
	}
	return list
}

// words returns the lists of n numbers from 0 to most, in lexicographic order.
func words(n, most int) [][]int {
	all := [][]int{{}}
	for range n {
		var longer [][]int
		for _, word := range all {
			for x := 0; x <= most; x++ {
				longer = append(longer, append(slices.Clone(word), x))
			}
		}
		all = longer
	}
	return all
}

func total(f, line []int) int {
	sum := 0
	for _, cell := range line {
		sum += f[cell]
	}
	return sum
}

// isFilling reports whether numbers are at least 0, and all lines have a sum.
func isFilling(s api.System, f []int, sum int) bool {
	for _, line := range s.Lines {
		if total(f, line) != sum {
			return false
		}
	}
	return slices.Min(f) >= 0
}

// searched returns the fillings with a sum, and the numbers of a beginning, in lexicographic order.
func searched(s api.System, sum int, beginning ...int) [][]int {
	f := append(slices.Clone(beginning), make([]int, s.Cells-len(beginning))...)
	for _, line := range s.Lines {
		if total(f, line) > sum {
			return nil
		}
	}
	if len(beginning) == s.Cells {
		if isFilling(s, f, sum) {
			return [][]int{f}
		}
		return nil
	}
	var all [][]int
	for x := range sum + 1 {
		all = append(all, searched(s, sum, append(beginning, x)...)...)
	}
	return all
}

// fillingsOf returns the fillings with sums up to one, in lexicographic order.
func fillingsOf(s api.System, most int) [][]int {
	var all [][]int
	for sum := range most + 1 {
		all = append(all, searched(s, sum)...)
	}
	slices.SortFunc(all, slices.Compare)
	return all
}

// isPartOf reports whether no number is above that of another filling.
func isPartOf(g, f []int) bool {
	for i, x := range g {
		if x > f[i] {
			return false
		}
	}
	return true
}

func isZero(f []int) bool {
	return slices.Max(f) == 0 && slices.Min(f) == 0
}

// added returns the sum of two lists.
func added(f, g []int) []int {
	sum := slices.Clone(f)
	for i, x := range g {
		sum[i] += x
	}
	return sum
}

// irreducibleOf returns those of the fillings that are not 0, and have no other one of them that is not 0 as a part.
func irreducibleOf(all [][]int) [][]int {
	var list [][]int
	for _, f := range all {
		splits := func(g []int) bool { return !isZero(g) && isPartOf(g, f) && !slices.Equal(f, g) }
		if !isZero(f) && !slices.ContainsFunc(all, splits) {
			list = append(list, f)
		}
	}
	return list
}

// someSystem returns a system that CheckCone accepts, of some cells. Often all lines have equally many.
func someSystem(random *rand.Rand, cells, lines int) api.System {
	for {
		s := system(cells)
		number, size := 1+random.Intn(lines), 1+random.Intn(cells)
		for range number {
			if random.Intn(10) == 0 {
				size = 1 + random.Intn(cells)
			}
			line := random.Perm(cells)[:size]
			slices.Sort(line)
			s.Lines = append(s.Lines, line)
		}
		if CheckCone(s) == api.OK {
			return s
		}
	}
}

// someSystems returns so many systems of up to so many cells.
func someSystems(seed int64, number, cells int) []api.System {
	random := rand.New(rand.NewSource(seed))
	all := []api.System{
		system(1, []int{0}), two(), system(2, []int{0}, []int{0, 1}), system(3, []int{0, 1, 2}), system(3, []int{0, 1}, []int{0, 2}, []int{1, 2}),
		system(4, []int{0, 1}, []int{0, 2}, []int{1, 2}, []int{3}), system(5, []int{0, 1}, []int{2, 3}, []int{1, 2, 4}), system(4, []int{0, 1}, []int{2, 3}, []int{0, 1, 2, 3}),
	}
	for len(all) < number {
		all = append(all, someSystem(random, 2+random.Intn(cells-1), 5))
	}
	return all
}

// badSystem is a system with its error.
type badSystem struct {
	s api.System
	e api.Errno
}

// badSystems returns systems with an error, which they have before another one.
func badSystems() map[string]badSystem {
	return map[string]badSystem{
		"nothing at all":               {api.System{}, api.ErrRange},
		"fewer cells than 0":           {system(-1, []int{0}), api.ErrRange},
		"257 cells":                    {system(257), api.ErrRange},
		"the greatest number":          {system(1<<63 - 1), api.ErrRange},
		"the least number":             {system(-1 << 63), api.ErrRange},
		"129 lines, the first empty":   {system(20, make([][]int, 129)...), api.ErrMany},
		"an empty line":                {system(20, []int{0, 1}, nil, []int{1, 0}), api.ErrEmpty},
		"a line of the cell -1":        {system(20, []int{-1, 0}, nil), api.ErrUnknown},
		"a line of a cell too far":     {system(17, []int{3, 17}, []int{1, 1}), api.ErrUnknown},
		"a line in a wrong order":      {system(20, []int{3, 2, 20}, nil), api.ErrOrder},
		"a line twice":                 {system(2, []int{0}, []int{0}), api.ErrTwice},
		"13 cells":                     {system(13, upTo(13)), api.ErrLimit},
		"13 cells without lines":       {system(13), api.ErrLimit},
		"256 cells":                    {system(256, []int{0}), api.ErrLimit},
		"13 lines":                     {system(12, append(subsets(12), upTo(12))...), api.ErrLimit},
		"13 lines, a cell on none":     {system(12, append(subsets(12), []int{0, 2})[:13]...), api.ErrLimit},
		"no lines":                     {system(12), api.ErrEmpty},
		"one cell without lines":       {system(1), api.ErrEmpty},
		"the first cell on no line":    {system(3, []int{1}, []int{1, 2}), api.ErrNone},
		"the last cell on no line":     {system(12, upTo(11)), api.ErrNone},
		"a cell in between on no line": {system(3, []int{0}, []int{2}), api.ErrNone},
	}
}

// subsets returns the lines of one cell each, of so many cells.
func subsets(cells int) [][]int {
	var lines [][]int
	for cell := range cells {
		lines = append(lines, []int{cell})
	}
	return lines
}
