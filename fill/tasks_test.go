package fill

import (
	"math"
	"math/rand"
	"slices"
	"testing"

	"talisman/api"
)

func TestCheckTask(t *testing.T) { // P6.1
	for i, x := range someTasks(1, 300, 9) {
		want(t, "CheckTask", []any{i, CheckTask(x)}, []any{i, api.OK})
	}
	greatest := free(256)
	greatest.Sum = api.MaxNumber
	greatest.Given[0], greatest.Given[255] = 256, 1
	want(t, "CheckTask of 256 cells", CheckTask(greatest), api.OK)
	full := example()
	full.Given = []int{2, 7, 6, 9, 5, 1, 4, 3, 8}
	want(t, "CheckTask of what is full", CheckTask(full), api.OK)
	for what, bad := range badTasks() {
		want(t, "CheckTask of "+what, CheckTask(bad.t), bad.e)
	}
}

func TestErrorsOfTasks(t *testing.T) { // P6.1 to P6.6: they come before those of all other arguments
	for what, bad := range badTasks() {
		is, e := IsSolution(bad.t, []int{math.MaxInt})
		want(t, "IsSolution of "+what, []any{is, e}, []any{false, bad.e})
		low, high, e := Bounds(bad.t, -1)
		want(t, "Bounds of "+what, []any{low, high, e}, []any{0, 0, bad.e})
		lists, e := Candidates(bad.t)
		wantLists(t, "Candidates of "+what, lists, e, nil, bad.e)
		reasons, e := Reasons(bad.t)
		wantList(t, "Reasons of "+what, reasons, e, nil, bad.e)
		lists, e = Completions(bad.t, 0)
		wantLists(t, "Completions of "+what, lists, e, nil, bad.e)
		n, e := Count(bad.t)
		want(t, "Count of "+what, []any{n, e}, []any{0, bad.e})
		f, e := Unique(bad.t)
		wantList(t, "Unique of "+what, f, e, nil, bad.e)
		f, g, e := Witnesses(bad.t)
		wantList(t, "Witnesses of "+what, append(f, g...), e, nil, bad.e)
		f, e = Forced(bad.t)
		wantList(t, "Forced of "+what, f, e, nil, bad.e)
		tree, e := Refute(bad.t)
		wantList(t, "Refute of "+what, tree, e, nil, bad.e)
		want(t, "CheckRefute of "+what, CheckRefute(bad.t, []api.Node{{Kind: "row"}}), bad.e)
		x, e := Begin(bad.t)
		wantState(t, "Begin of "+what, x, e, State{}, bad.e)
		want(t, "CheckState of "+what, CheckState(bad.t, State{Tried: -1}), bad.e)
		x, lists, e = Continue(bad.t, State{Tried: -1}, -1)
		wantState(t, "Continue of "+what, x, e, State{}, bad.e)
		wantLists(t, "solutions of Continue of "+what, lists, e, nil, bad.e)
		lists, e = Rest(bad.t, State{Tried: -1})
		wantLists(t, "Rest of "+what, lists, e, nil, bad.e)
		moved, e := MoveTask(bad.t, api.Symmetry{Cells: []int{7}})
		want(t, "MoveTask of "+what, []any{moved, e}, []any{Task{}, bad.e})
		tree, e = MoveTree(bad.t, []api.Node{{Kind: "row"}}, api.Symmetry{Cells: []int{7}})
		wantList(t, "MoveTree of "+what, tree, e, nil, bad.e)
	}
}

func TestIsSolution(t *testing.T) { // P6.1
	random := rand.New(rand.NewSource(2))
	yes := 0
	for i, x := range someTasks(3, 600, 5) {
		all := solutionsOf(x)
		fillings := append(filled(all), x.Given, slices.Repeat([]int{2}, len(x.Given)))
		for range 5 {
			f := random.Perm(len(x.Given))
			for k := range f {
				f[k]++
			}
			fillings = append(fillings, f)
		}
		for _, f := range fillings {
			solves := slices.ContainsFunc(all, func(g []int) bool { return slices.Equal(f, g) })
			is, e := IsSolution(x, f)
			want(t, "IsSolution", []any{i, f, is, e}, []any{i, f, solves, api.OK})
			if solves {
				yes++
			}
		}
	}
	want(t, "some are solutions", yes > 300, true)
}

func TestIsSolutionOfSquares(t *testing.T) { // P6.1
	for _, x := range []struct {
		f  []int
		is bool
		e  api.Errno
	}{
		{[]int{2, 7, 6, 9, 5, 1, 4, 3, 8}, true, api.OK},
		{[]int{2, 9, 4, 7, 5, 3, 6, 1, 8}, false, api.OK},
		{[]int{2, 7, 6, 9, 5, 1, 4, 8, 3}, false, api.OK},
		{[]int{5, 5, 5, 5, 5, 5, 5, 5, 5}, false, api.OK},
		{[]int{2, 7, 6, 11, 5, -1, 2, 3, 10}, false, api.OK},
		{[]int{api.MaxNumber, -api.MaxNumber, 0, 0, 0, 0, 0, 0, 0}, false, api.OK},
		{nil, false, api.ErrShape},
		{[]int{2, 7, 6, 9, 5, 1, 4, 3}, false, api.ErrShape},
		{[]int{2, 7, 6, 9, 5, 1, 4, 3, 8, math.MaxInt}, false, api.ErrShape},
		{[]int{2, 7, 6, 9, 5, 1, 4, 3, 1000000000}, false, api.ErrRange},
		{[]int{-1000000000, 7, 6, 9, 5, 1, 4, 3, 8}, false, api.ErrRange},
	} {
		is, e := IsSolution(example(), x.f)
		want(t, "IsSolution", []any{x.f, is, e}, []any{x.f, x.is, x.e})
	}
	is, e := IsSolution(square(15, 0, 0, 0, 0, 0, 0, 0, 0, 0), []int{5, 5, 5, 5, 5, 5, 5, 5, 5})
	want(t, "a magic filling that is not normal", []any{is, e}, []any{false, api.OK})
	is, e = IsSolution(free(256), numbersUpTo(256))
	want(t, "256 numbers", []any{is, e}, []any{true, api.OK})
	is, e = IsSolution(taskOf(1, []int{0, 1}), []int{1, 2})
	want(t, "another number than that which is given", []any{is, e}, []any{false, api.OK})
}

// boundsOf takes the first and the last ones of the unused numbers.
func boundsOf(t Task, line []int) (least, greatest int) {
	unused := unusedOf(t)
	for _, cell := range line {
		least, greatest = least+t.Given[cell], greatest+t.Given[cell]
		if t.Given[cell] == 0 {
			least += unused[0]
			unused = unused[1:]
		}
	}
	unused = unusedOf(t)
	for _, cell := range line {
		if t.Given[cell] == 0 {
			greatest += unused[len(unused)-1]
			unused = unused[:len(unused)-1]
		}
	}
	return least, greatest
}

func TestBounds(t *testing.T) { // P6.1
	for i, x := range someTasks(4, 600, 12) {
		for line, members := range x.System.Lines {
			low, high, e := Bounds(x, line)
			least, greatest := boundsOf(x, members)
			want(t, "Bounds", []any{i, line, low, high, e}, []any{i, line, least, greatest, api.OK})
		}
		for _, line := range []int{-1, len(x.System.Lines), math.MaxInt, math.MinInt} {
			low, high, e := Bounds(x, line)
			want(t, "Bounds of no line", []any{low, high, e}, []any{0, 0, api.ErrUnknown})
		}
	}
	for _, x := range [][]int{{0, 15, 15}, {1, 8, 22}, {3, 6, 19}} {
		low, high, e := Bounds(example(), x[0])
		want(t, "Bounds of the example", []any{low, high, e}, []any{x[1], x[2], api.OK})
	}
	low, high, e := Bounds(square(15, 1, 2, 0, 0, 0, 0, 0, 0, 0), 0)
	want(t, "Bounds of 1 2 0", []any{low, high, e}, []any{6, 12, api.OK})
}

func TestBoundsOf256Cells(t *testing.T) { // P6.1
	random := rand.New(rand.NewSource(5))
	for range 50 {
		x := free(256)
		numbers := random.Perm(256)
		for cell := range random.Intn(256) {
			x.Given[cell] = numbers[cell] + 1
		}
		x.System.Lines = [][]int{someLine(random, 256), random.Perm(256)}
		slices.Sort(x.System.Lines[1])
		for line, members := range x.System.Lines {
			low, high, e := Bounds(x, line)
			least, greatest := boundsOf(x, members)
			want(t, "Bounds", []any{low, high, e}, []any{least, greatest, api.OK})
		}
	}
}
