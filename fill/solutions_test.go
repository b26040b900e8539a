package fill

import (
	"math"
	"math/rand"
	"slices"
	"testing"

	"talisman/api"
	"talisman/lines"
)

// forcedOf keeps the numbers that all fillings share.
func forcedOf(all [][]int) []int {
	if len(all) == 0 {
		return nil
	}
	forced := slices.Clone(all[0])
	for cell := range forced {
		for _, f := range all {
			if f[cell] != all[0][cell] {
				forced[cell] = 0
			}
		}
	}
	return forced
}

// wantSolutions compares what the functions tell of a task with all of its solutions.
func wantSolutions(t *testing.T, x Task, all [][]int) {
	t.Helper()
	few := min(len(all), 256)
	for _, most := range []int{1, 2, max(few-1, 1), max(few, 1), 256} {
		l, e := Completions(x, most)
		wantLists(t, "Completions", l, e, all[:min(most, len(all))], api.OK)
	}
	n, e := Count(x)
	want(t, "Count", []any{n, e}, []any{len(all), api.OK})
	none, several := api.OK, api.OK
	if len(all) == 0 {
		none = api.ErrInfeasible
	}
	forced, e := Forced(x)
	wantList(t, "Forced", forced, e, forcedOf(all), none)
	var only, one, other []int
	switch {
	case len(all) == 1:
		only = all[0]
	case len(all) > 1:
		several, one, other = api.ErrMore, all[0], all[1]
	}
	f, e := Unique(x)
	wantList(t, "Unique", f, e, only, max(none, several))
	f, g, e := Witnesses(x)
	if len(all) < 2 {
		none = api.ErrInfeasible
	}
	wantList(t, "the first one of Witnesses", f, e, one, none)
	wantList(t, "the second one of Witnesses", g, e, other, none)
}

func TestSolutions(t *testing.T) { // P6.3
	numbers := map[int]int{}
	for i, x := range append(someTasks(8, 1500, 6), someTasks(9, 100, 7)...) {
		all := solutionsOf(x)
		numbers[min(len(all), 3)]++
		wantSolutions(t, x, all)
		if t.Failed() {
			t.Fatal(i, x)
		}
	}
	for n := range 4 {
		want(t, "tasks with none, one, two and more solutions", []any{n, numbers[n] > 100}, []any{n, true})
	}
}

func TestSolutionsOfSquares(t *testing.T) { // P6.3
	all := [][]int{{2, 7, 6, 9, 5, 1, 4, 3, 8}, {2, 9, 4, 7, 5, 3, 6, 1, 8}, {4, 3, 8, 9, 5, 1, 2, 7, 6}, {4, 9, 2, 3, 5, 7, 8, 1, 6}, {6, 1, 8, 7, 5, 3, 2, 9, 4}, {6, 7, 2, 1, 5, 9, 8, 3, 4}, {8, 1, 6, 3, 5, 7, 4, 9, 2}, {8, 3, 4, 1, 5, 9, 6, 7, 2}}
	wantSolutions(t, square(15, make([]int, 9)...), all)
	for cell := range 9 {
		for x := 1; x <= 9; x++ {
			further := square(15, make([]int, 9)...)
			further.Given[cell] = x
			wantSolutions(t, further, slices.DeleteFunc(filled(all), func(f []int) bool { return f[cell] != x }))
		}
	}
	wantSolutions(t, example(), all[:1])
	forced, e := Forced(square(15, make([]int, 9)...))
	wantList(t, "Forced of nothing that is given", forced, e, []int{0, 0, 0, 0, 5, 0, 0, 0, 0}, api.OK)
	for _, sum := range []int{1, 14, 16, api.MaxNumber} {
		wantSolutions(t, square(sum, make([]int, 9)...), nil)
	}
}

func TestNumbersOfSolutions(t *testing.T) { // P6.3: numbers that are known
	system := func(s api.System, e api.Errno) api.System {
		want(t, "error of a system", e, api.OK)
		return s
	}
	for _, x := range []struct {
		what   string
		s      api.System
		sum, n int
		e      api.Errno
	}{
		{"magic squares of order 4", system(lines.SquareSystem("magic", 4)), 34, 7040, api.OK},
		{"pandiagonal squares of order 4", system(lines.SquareSystem("pandiagonal", 4)), 34, 384, api.OK},
		{"semimagic squares of order 3", system(lines.SquareSystem("semimagic", 3)), 15, 72, api.OK},
		{"stars with 6 points", system(lines.Star(6)), 26, 960, api.OK},
		{"no lines of 12 cells", free(12).System, 1, 479001600, api.OK},
		{"no lines of 13 cells", free(13).System, 1, 0, api.ErrMany},
		{"no lines of 16 cells", free(16).System, 1, 0, api.ErrMany},
		{"rows alone of order 4", system(lines.RowLines(4, 4)), 34, 392 * 24 * 24 * 24 * 24 * 24, api.ErrMany},
		{"rows alone of order 3", system(lines.RowLines(3, 3)), 15, 2 * 6 * 6 * 6 * 6, api.OK},
	} {
		n, e := Count(Task{System: x.s, Sum: x.sum, Given: make([]int, x.s.Cells)})
		if x.e != api.OK {
			x.n = 0
		}
		want(t, "Count of "+x.what, []any{n, e}, []any{x.n, x.e})
	}
}

func TestManySolutions(t *testing.T) { // P6.3: the first ones of 16!
	l, e := Completions(free(16), 256)
	want(t, "Completions", []any{len(l), e}, []any{256, api.OK})
	want(t, "the first one", l[0], numbersUpTo(16))
	want(t, "the last one", l[255], append(numbersUpTo(10), 13, 11, 15, 14, 16, 12))
	f, g, e := Witnesses(free(16))
	want(t, "Witnesses", []any{f, g, e}, []any{numbersUpTo(16), append(numbersUpTo(14), 16, 15), api.OK})
	_, e = Unique(free(16))
	want(t, "Unique", e, api.ErrMore)
	forced, e := Forced(free(16))
	want(t, "Forced", []any{forced, e}, []any{make([]int, 16), api.OK})
	last := free(16)
	last.System.Lines, last.Sum = [][]int{{15}}, 7
	forced, e = Forced(last)
	want(t, "Forced with a line of one cell", []any{forced, e}, []any{append(make([]int, 15), 7), api.OK})
}

func TestLateContradictions(t *testing.T) { // P6.3: two lines that differ in one cell, behind many others
	x := free(16)
	x.System.Lines, x.Sum = [][]int{cellsUpTo(14), cellsUpTo(15)[1:]}, 120
	_, e := Unique(x)
	want(t, "Unique", e, api.ErrInfeasible)
	x = free(15)
	x.System.Lines, x.Sum = [][]int{{12, 13}, {13, 14}}, 12
	wantSolutions(t, x, nil)
}

// countOf counts by trying all numbers in all open cells.
func countOf(t Task) int {
	f, used := slices.Clone(t.Given), make([]bool, t.System.Cells+1)
	for _, x := range f {
		used[x] = true
	}
	n, open := 0, openOf(t)
	var try func(k int)
	try = func(k int) {
		if k == len(open) {
			if hasSums(t, f) {
				n++
			}
			return
		}
		for x := 1; x < len(used); x++ {
			if !used[x] {
				f[open[k]], used[x] = x, true
				try(k + 1)
				used[x] = false
			}
		}
	}
	try(0)
	return n
}

func TestSituationsThatComeAgain(t *testing.T) { // P6.3
	x := taskOf(15, []int{0, 0, 0, 0, 0, 0, 9, 8, 7, 6}, []int{0, 1}, []int{2, 3, 4, 6}, []int{2, 3, 5, 7}, []int{2, 4, 5, 8}, []int{3, 4, 5, 9})
	wantSolutions(t, x, [][]int{{5, 10, 1, 2, 3, 4, 9, 8, 7, 6}, {10, 5, 1, 2, 3, 4, 9, 8, 7, 6}})
	random := rand.New(rand.NewSource(25))
	for range 150 {
		x := free(8)
		x.Sum = 9 + random.Intn(10)
		for range 1 + random.Intn(3) {
			x.System.Lines = append(x.System.Lines, someLine(random, 8))
		}
		if CheckTask(x) == api.OK {
			n, e := Count(x)
			want(t, "Count of few lines", []any{x.Sum, x.System.Lines, n, e}, []any{x.Sum, x.System.Lines, countOf(x), api.OK})
		}
	}
	for sum := 10; sum < 20; sum++ {
		chain := taskOf(sum, make([]int, 9), []int{0, 1, 2}, []int{0, 3, 4}, []int{4, 5, 6})
		n, e := Count(chain)
		want(t, "Count of a chain", []any{n, e}, []any{countOf(chain), api.OK})
	}
	large := taskOf(0, numbersUpTo(256), []int{70, 90, 110}, []int{19, 110, 130, 150})
	for k := range 9 {
		large.Given[70+20*k] = 0
	}
	for k := 8; k < 14; k++ {
		large.Sum = 3*71 + 20*k
		n, e := Count(large)
		want(t, "Count of nine open cells of 256", []any{n, e}, []any{countOf(large), api.OK})
		want(t, "there are some solutions", n > 100, true)
	}
}

func TestSolutionsOf256Cells(t *testing.T) { // P6.3
	x := taskOf(257, numbersUpTo(256), []int{0, 255}, []int{1, 254}, []int{64, 191})
	wantSolutions(t, x, [][]int{numbersUpTo(256)})
	for _, cell := range []int{0, 64, 128, 191, 255} {
		x.Given[cell] = 0
	}
	all := solutionsOf(x)
	want(t, "the number of solutions of three pairs, of which one has one open cell", len(all), 8)
	wantSolutions(t, x, all)
}

func TestErrorsOfSolutions(t *testing.T) { // P6.3
	large := free(17)
	for _, most := range []int{0, -1, 257, math.MaxInt, math.MinInt} {
		for _, x := range []Task{pairs(0, 0, 0, 0), pairs(1, 2, 3, 4), large} {
			l, e := Completions(x, most)
			wantLists(t, "Completions", l, e, nil, api.ErrRange)
		}
	}
	l, e := Completions(large, 1)
	wantLists(t, "Completions of 17 cells", l, e, nil, api.ErrLimit)
	n, e := Count(large)
	want(t, "Count of 17 cells", []any{n, e}, []any{0, api.ErrLimit})
	f, e := Unique(large)
	wantList(t, "Unique of 17 cells", f, e, nil, api.ErrLimit)
	f, g, e := Witnesses(large)
	wantList(t, "Witnesses of 17 cells", append(f, g...), e, nil, api.ErrLimit)
	f, e = Forced(large)
	wantList(t, "Forced of 17 cells", f, e, nil, api.ErrLimit)
	large.Given[16] = 1
	n, e = Count(large)
	want(t, "Count of 16 open cells of 17", []any{n, e}, []any{0, api.ErrMany})
	large.System.Lines, large.Sum, large.Given[16] = [][]int{{0}}, 18, 0
	_, e = Unique(large)
	want(t, "Unique of 17 cells without a solution", e, api.ErrLimit)
}
