package fill

import (
	"math/rand"
	"slices"
	"sync"
	"testing"

	"talisman/api"
	"talisman/group"
)

func TestConsequencesOfRules(t *testing.T) { // P6.7: no rule takes away a number of a solution
	for i, x := range someTasks(19, 600, 6) {
		left, _ := Candidates(x)
		for _, f := range solutionsOf(x) {
			for cell, number := range f {
				want(t, "a candidate of a solution", []any{i, cell, slices.Contains(left[cell], number)}, []any{i, cell, true})
			}
		}
	}
}

func TestConsequencesOfSolutions(t *testing.T) { // P6.7
	for _, x := range someTasks(20, 400, 6) {
		all, e := Completions(x, 256)
		want(t, "error of Completions", e, api.OK)
		_, e = Refute(x)
		want(t, "a refutation exactly if there is no solution", e == api.OK, len(all) == 0)
		for _, f := range all {
			is, e := IsSolution(x, f)
			want(t, "IsSolution", []any{is, e}, []any{true, api.OK})
		}
		if n, _ := Count(x); n > 256 || len(openOf(x)) == 0 {
			continue
		}
		cell := openOf(x)[len(openOf(x))/2]
		for _, number := range unusedOf(x) {
			further, e := Completions(with(x, cell, number), 256)
			wantLists(t, "solutions with a further number", further, e, slices.DeleteFunc(slices.Clone(all), func(f []int) bool { return f[cell] != number }), api.OK)
		}
	}
}

func TestConsequencesOfSearches(t *testing.T) { // P6.7: however a search is cut into parts
	random := rand.New(rand.NewSource(21))
	for _, x := range append(someTasks(22, 300, 6), example(), square(15, make([]int, 9)...)) {
		end, all, e := Continue(x, State{}, api.MaxBudget)
		want(t, "the search at once is at its end", []any{end.Done, e}, []any{true, api.OK})
		want(t, "the search finds as many as there are", len(all), len(solutionsOf(x)))
		var found [][]int
		state, _ := Begin(x)
		for !state.Done {
			var l [][]int
			state, l, e = Continue(x, state, random.Intn(1+end.Tried/5)+random.Intn(2))
			found = append(found, l...)
			if n := len(all) - len(found); n <= 256 {
				rest, e := Rest(x, state)
				wantLists(t, "Rest", rest, e, all[len(found):], api.OK)
			}
		}
		wantState(t, "the last state", state, e, end, api.OK)
		wantLists(t, "the solutions of all parts", found, e, all, api.OK)
	}
}

func TestConsequencesOfImages(t *testing.T) { // P6.7: images of solutions solve the image of a task
	random := rand.New(rand.NewSource(23))
	for _, x := range someTasks(24, 600, 6) {
		m := someSymmetry(random, x)
		image, e := MoveTask(x, m)
		if e != api.OK {
			continue
		}
		var moved [][]int
		for _, f := range solutionsOf(x) {
			g, _ := group.Apply(m, f)
			moved = append(moved, g)
		}
		slices.SortFunc(moved, slices.Compare)
		wantLists(t, "the solutions of the image", solutionsOf(image), e, moved, api.OK)
		back, _ := group.Invert(m)
		again, e := MoveTask(image, back)
		want(t, "the image of an image", []any{copied(again), e}, []any{copied(x), api.OK})
	}
}

// listsOf returns all lists of integers of some results.
func listsOf(results []any) [][]int {
	var lists [][]int
	for _, x := range results {
		switch x := x.(type) {
		case []int:
			lists = append(lists, x)
		case [][]int:
			lists = append(lists, x...)
		case State:
			lists = append(lists, x.Path)
		case Task:
			lists = append(lists, x.Given)
			lists = append(lists, x.System.Lines...)
		}
	}
	return lists
}

func TestMemory(t *testing.T) { // P6.1 to P6.6: arguments stay as they are, results share nothing
	x, none, full := example(), pairs(0, 1, 0, 4), pairs(1, 4, 2, 3)
	tree := []api.Node{{Kind: "number", Number: 2, Kids: 2}, {Kind: "line"}, {Kind: "line", Line: 1}}
	same := api.Symmetry{Cells: cellsUpTo(9)}
	path := State{Path: []int{1, 3, 4}, Tried: 3}
	calls := func() []any {
		candidates, _ := Candidates(x)
		completions, _ := Completions(square(15, make([]int, 9)...), 8)
		solved, _ := Completions(full, 1)
		unique, _ := Unique(full)
		one, other, _ := Witnesses(square(15, make([]int, 9)...))
		forced, _ := Forced(full)
		same0, _, _ := Continue(x, path, 0)
		state, found, _ := Continue(x, path, 1000)
		further, solutions, _ := Continue(pairs(1, 0, 0, 0), State{}, 7)
		end, last, _ := Continue(full, State{}, 1)
		rest, _ := Rest(full, State{})
		image, _ := MoveTask(x, same)
		return []any{candidates, completions, solved, unique, one, other, forced, same0, state, found, further, solutions, end, last, rest, image}
	}
	wanted := calls()
	lists := listsOf(calls())
	for k, list := range lists {
		copy(list[:cap(list)], slices.Repeat([]int{-1 - k}, cap(list)))
	}
	for k, list := range lists {
		if !slices.Equal(list, slices.Repeat([]int{-1 - k}, len(list))) {
			t.Error("results share memory", k, list)
		}
	}
	moved, _ := MoveTree(none, tree, api.Symmetry{Cells: cellsUpTo(4)})
	clear(moved[:cap(moved)])
	want(t, "CheckRefute", CheckRefute(none, tree), api.OK)
	want(t, "the arguments", []any{x, none, full, same, path}, []any{example(), pairs(0, 1, 0, 4), pairs(1, 4, 2, 3), api.Symmetry{Cells: cellsUpTo(9)}, State{Path: []int{1, 3, 4}, Tried: 3}})
	want(t, "the results again", calls(), wanted)
}

func TestCallsAtOneTime(t *testing.T) { // P6.2 to P6.5: results depend on the arguments alone
	x := square(14, make([]int, 9)...)
	tree, _ := Refute(x)
	reasons, _ := Reasons(example())
	n, _ := Count(square(15, make([]int, 9)...))
	var calls sync.WaitGroup
	for range 8 {
		calls.Go(func() {
			again, e := Refute(x)
			wantList(t, "Refute", again, e, tree, api.OK)
			r, e := Reasons(example())
			wantList(t, "Reasons", r, e, reasons, api.OK)
			m, e := Count(square(15, make([]int, 9)...))
			want(t, "Count", []any{m, e}, []any{n, api.OK})
		})
	}
	calls.Wait()
}
