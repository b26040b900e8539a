package fill

import (
	"math/rand"
	"slices"
	"testing"

	"talisman/api"
)

// table tells for each cell which numbers are candidates.
type table [][]bool

func tableOf(t Task) table {
	c := make(table, t.System.Cells)
	for cell := range c {
		c[cell] = make([]bool, t.System.Cells+1)
		for x := 1; x <= t.System.Cells; x++ {
			c[cell][x] = t.Given[cell] == 0 || t.Given[cell] == x
		}
	}
	return c
}

func (c table) of(cell int) []int {
	var list []int
	for x, is := range c[cell] {
		if is {
			list = append(list, x)
		}
	}
	return list
}

func (c table) contradicts() bool {
	seen := make([]bool, len(c)+1)
	for cell := range c {
		if len(c.of(cell)) == 0 {
			return true
		}
		for _, x := range c.of(cell) {
			seen[x] = true
		}
	}
	return slices.Contains(seen[1:], false)
}

// removable returns all removals that the rules permit, in the order of removals.
func (c table) removable(t Task) []Removal {
	var all []Removal
	for cell := range c {
		for _, x := range c.of(cell) {
			if c.isOnlyOfAnother(cell, x) {
				all = append(all, Removal{"once", cell, x, -1})
			}
		}
	}
	for line, members := range t.System.Lines {
		for _, cell := range members {
			least, greatest := 0, 0
			for _, other := range members {
				if l := c.of(other); other != cell {
					least, greatest = least+l[0], greatest+l[len(l)-1]
				}
			}
			for _, x := range c.of(cell) {
				if t.Sum-x < least || t.Sum-x > greatest {
					all = append(all, Removal{"line", cell, x, line})
				}
			}
		}
	}
	for cell := range c {
		for _, y := range c.of(cell) {
			if c.hasOther(cell, y) {
				all = append(all, Removal{"place", cell, y, -1})
			}
		}
	}
	return all
}

// isOnlyOfAnother reports whether another cell has no candidate but x.
func (c table) isOnlyOfAnother(cell, x int) bool {
	for other := range c {
		if other != cell && slices.Equal(c.of(other), []int{x}) {
			return true
		}
	}
	return false
}

// hasOther reports whether a cell has a candidate other than y that no other cell has.
func (c table) hasOther(cell, y int) bool {
	for _, x := range c.of(cell) {
		places := 0
		for other := range c {
			if c[other][x] {
				places++
			}
		}
		if x != y && places == 1 {
			return true
		}
	}
	return false
}

// reasonsOf takes away what a function chooses, as long as there is something.
func reasonsOf(t Task, choose func(all []Removal) Removal) ([]Removal, [][]int) {
	c := tableOf(t)
	var reasons []Removal
	for !c.contradicts() {
		all := c.removable(t)
		if len(all) == 0 {
			break
		}
		r := choose(all)
		reasons = append(reasons, r)
		c[r.Cell][r.Number] = false
	}
	left := make([][]int, len(c))
	for cell := range c {
		if !c.contradicts() {
			left[cell] = c.of(cell)
		}
	}
	return reasons, left
}

// tightTasks returns tasks with a line of all cells but one, to which the sum
// leaves the greatest or the least number.
func tightTasks(random *rand.Rand, number int) []Task {
	var tasks []Task
	for range number {
		cells := 2 + random.Intn(5)
		sum, given := cells*(cells+1)/2-1, make([]int, cells)
		if random.Intn(2) == 0 {
			sum -= cells - 1
		}
		if random.Intn(2) == 0 {
			given[random.Intn(cells)] = 1 + random.Intn(cells)
		}
		tasks = append(tasks, taskOf(sum, given, slices.DeleteFunc(cellsUpTo(cells), func(cell int) bool { return cell == sum%cells })))
	}
	return tasks
}

func TestRules(t *testing.T) { // P6.2
	random := rand.New(rand.NewSource(6))
	contradictions, used := 0, map[string]int{}
	for i, x := range append(someTasks(7, 1200, 7), tightTasks(random, 200)...) {
		steps, lists := reasonsOf(x, func(all []Removal) Removal { return all[0] })
		reasons, e := Reasons(x)
		wantList(t, "Reasons", reasons, e, steps, api.OK)
		left, e := Candidates(x)
		wantLists(t, "Candidates", left, e, lists, api.OK)
		if len(left[0]) == 0 {
			contradictions++
		}
		for _, r := range steps {
			used[r.Rule]++
		}
		_, lists = reasonsOf(x, func(all []Removal) Removal { return all[random.Intn(len(all))] })
		wantLists(t, "what is left does not depend on the order", left, e, lists, api.OK)
		if t.Failed() {
			t.Fatal(i, x)
		}
	}
	want(t, "the rules are used, and contradict", []bool{contradictions > 100, used["once"] > 100, used["line"] > 100, used["place"] > 100}, []bool{true, true, true, true})
}

func TestRulesOfSquares(t *testing.T) { // P6.2
	centre := with(example(), 4, 5)
	left, e := Candidates(centre)
	wantLists(t, "Candidates with 5 in the centre", left, e, [][]int{{2}, {7}, {6}, {9}, {5}, {1}, {4}, {3}, {8}}, api.OK)
	for _, x := range []Task{centre, example(), square(15, 1, 0, 0, 0, 0, 0, 0, 0, 0), square(15, 0, 0, 0, 0, 5, 0, 0, 0, 0), square(14, 0, 0, 0, 0, 0, 0, 0, 0, 0), square(6, 0, 0, 0, 0, 0, 0, 0, 0, 0)} {
		steps, lists := reasonsOf(x, func(all []Removal) Removal { return all[0] })
		left, e := Candidates(x)
		wantLists(t, "Candidates of a square", left, e, lists, api.OK)
		reasons, e := Reasons(x)
		wantList(t, "Reasons of a square", reasons, e, steps, api.OK)
	}
}

func TestContradictions(t *testing.T) { // P6.2
	for _, x := range []struct {
		what    string
		t       Task
		reasons []Removal
		left    [][]int
	}{
		{"two lines of one cell have the sum 3", taskOf(3, []int{0, 0, 0}, []int{0}, []int{1}), []Removal{{"line", 0, 1, 0}, {"line", 0, 2, 0}, {"once", 1, 3, -1}, {"once", 2, 3, -1}, {"line", 1, 1, 1}, {"once", 2, 2, -1}, {"line", 1, 2, 1}}, make([][]int, 3)},
		{"a given number misses the sum", taskOf(4, []int{2, 0}, []int{0}), []Removal{{"once", 1, 2, -1}, {"line", 0, 2, 0}}, make([][]int, 2)},
		{"one cell", taskOf(1, []int{0}, []int{0}), nil, [][]int{{1}}},
		{"one cell, and another sum", taskOf(2, []int{0}, []int{0}), []Removal{{"line", 0, 1, 0}}, make([][]int, 1)},
		{"two cells have the same number", taskOf(2, []int{0, 0, 0}, []int{1}, []int{2}), []Removal{{"line", 1, 1, 0}, {"line", 1, 3, 0}, {"once", 0, 2, -1}, {"once", 2, 2, -1}, {"line", 2, 1, 1}, {"once", 0, 3, -1}, {"line", 2, 3, 1}}, make([][]int, 3)},
		{"two numbers have no other cell than one", taskOf(7, []int{0, 0, 0, 0}, []int{1, 2}, []int{1, 3}, []int{2, 3}), []Removal{{"line", 1, 1, 0}, {"line", 1, 2, 0}, {"line", 2, 1, 0}, {"line", 2, 2, 0}, {"line", 3, 1, 1}, {"line", 3, 2, 1}, {"place", 0, 1, -1}}, make([][]int, 4)},
		{"the greatest sum", Task{System: api.System{Cells: 2, Lines: [][]int{{0, 1}}}, Sum: api.MaxNumber, Given: []int{0, 0}}, []Removal{{"line", 0, 1, 0}, {"once", 1, 2, -1}, {"line", 0, 2, 0}}, make([][]int, 2)},
		{"no lines", free(2), nil, [][]int{{1, 2}, {1, 2}}},
		{"nothing is open", pairs(1, 4, 2, 3), nil, [][]int{{1}, {4}, {2}, {3}}},
	} {
		reasons, e := Reasons(x.t)
		wantList(t, "Reasons where "+x.what, reasons, e, x.reasons, api.OK)
		left, e := Candidates(x.t)
		wantLists(t, "Candidates where "+x.what, left, e, x.left, api.OK)
	}
}

func TestRulesOf256Cells(t *testing.T) { // P6.2: a chain of pairs, whose numbers decide one another
	x := free(256)
	x.Sum = 257
	for k := range 127 {
		x.System.Lines = append(x.System.Lines, []int{2 * k, 2*k + 1})
		x.Given[2*k] = k + 1
	}
	left, e := Candidates(x)
	var lists [][]int
	for k := range 127 {
		lists = append(lists, []int{k + 1}, []int{256 - k})
	}
	wantLists(t, "Candidates", left, e, append(lists, []int{128, 129}, []int{128, 129}), api.OK)
	reasons, e := Reasons(x)
	want(t, "the number of reasons", []any{len(reasons), e}, []any{127*255 + 2*254, api.OK})
	want(t, "the first reason", reasons[0], Removal{"once", 1, 1, -1})
	want(t, "the last reason", reasons[len(reasons)-1], Removal{"once", 255, 130, -1})
	x.Given[255], x.Given[254] = 129, 128
	left, e = Candidates(x)
	wantLists(t, "Candidates of the last cells", left[254:], e, [][]int{{128}, {129}}, api.OK)
}
