package fill

import (
	"iter"
	"slices"

	"talisman/api"
)

// Removal is a number that a rule takes away from a cell.
type Removal struct {
	Rule   string
	Cell   int
	Number int
	Line   int
}

// sets has the candidates of each cell, and none for cells that a task does not have.
type sets [api.MaxCells]set

// rule is a rule with what it takes away from some candidates, in the order of
// removals.
type rule struct {
	name    string
	removed func(t Task, cells sets) iter.Seq[Removal]
}

func rules() []rule {
	return []rule{
		{"once", removedOnce},
		{"line", removedByLines},
		{"place", removedByPlaces},
	}
}

// Candidates returns the numbers that the rules leave for each cell.
func Candidates(t Task) ([][]int, api.Errno) {
	if e := CheckTask(t); e != api.OK {
		return nil, e
	}
	lists := make([][]int, t.System.Cells)
	cells := left(t)
	for cell := range lists {
		lists[cell] = slices.Collect(cells[cell].all)
	}
	return lists, api.OK
}

// left returns what the rules leave. What a rule may take away it may still take
// away when there are fewer candidates: so all of it is taken away at once.
func left(t Task) sets {
	cells := candidates(t)
	for before := (sets{}); cells != before; {
		before = cells
		for _, kind := range rules() {
			for r := range kind.removed(t, cells) {
				cells[r.Cell].remove(r.Number)
			}
		}
		if contradict(t, cells) {
			return sets{}
		}
	}
	return cells
}

// Reasons returns why the rules take away numbers, step by step.
func Reasons(t Task) ([]Removal, api.Errno) {
	if e := CheckTask(t); e != api.OK {
		return nil, e
	}
	var reasons []Removal
	cells := candidates(t)
	for !contradict(t, cells) {
		r, found := firstRemoval(t, cells)
		if !found {
			break
		}
		cells[r.Cell].remove(r.Number)
		reasons = append(reasons, r)
	}
	return reasons, api.OK
}

// firstRemoval returns what is taken away next, if there is something.
func firstRemoval(t Task, cells sets) (r Removal, found bool) {
	for _, kind := range rules() {
		for r := range kind.removed(t, cells) {
			r.Rule = kind.name
			return r, true
		}
	}
	return Removal{}, false
}

// candidates returns the candidates before any rule has taken one away.
func candidates(t Task) sets {
	var cells sets
	for cell, x := range t.Given {
		if x == 0 {
			cells[cell] = upTo(t.System.Cells)
		} else {
			cells[cell].add(x)
		}
	}
	return cells
}

// contradict reports whether a cell has no candidate, or a number no cell.
func contradict(t Task, cells sets) bool {
	var placed set
	for _, s := range cells[:t.System.Cells] {
		if s == (set{}) {
			return true
		}
		placed = placed.or(s)
	}
	return placed != upTo(t.System.Cells)
}

// removedOnce visits the numbers that are the only candidate of another cell.
func removedOnce(t Task, cells sets) iter.Seq[Removal] {
	var single, several set
	for _, s := range cells[:t.System.Cells] {
		if s.size() == 1 {
			several = several.or(single.and(s))
			single = single.or(s)
		}
	}
	return inCells(t, func(cell int) set {
		if cells[cell].size() == 1 {
			return cells[cell].and(several)
		}
		return cells[cell].and(single)
	})
}

// removedByPlaces visits the numbers in the place of those that have no other cell.
func removedByPlaces(t Task, cells sets) iter.Seq[Removal] {
	var placed, several set
	for _, s := range cells[:t.System.Cells] {
		several = several.or(placed.and(s))
		placed = placed.or(s)
	}
	return inCells(t, func(cell int) set {
		only := cells[cell].without(several)
		switch only.size() {
		case 0:
			return set{}
		case 1:
			return cells[cell].without(only)
		}
		return cells[cell]
	})
}

// inCells visits the removals without a line of the numbers that a function tells.
func inCells(t Task, removed func(cell int) set) iter.Seq[Removal] {
	return func(yield func(Removal) bool) {
		for cell := range t.System.Cells {
			for x := range removed(cell).all {
				if !yield(Removal{Cell: cell, Number: x, Line: -1}) {
					return
				}
			}
		}
	}
}

// removedByLines visits the numbers with which a line misses the sum.
func removedByLines(t Task, cells sets) iter.Seq[Removal] {
	var least, greatest [api.MaxCells]int
	for cell, s := range cells {
		least[cell], greatest[cell] = s.after(0), s.greatest()
	}
	return func(yield func(Removal) bool) {
		for line, members := range t.System.Lines {
			low, high := sumOf(least[:], members), sumOf(greatest[:], members)
			for _, cell := range members {
				for x := range cells[cell].all {
					fits := low-least[cell] <= t.Sum-x && t.Sum-x <= high-greatest[cell]
					if !fits && !yield(Removal{Cell: cell, Number: x, Line: line}) {
						return
					}
				}
			}
		}
	}
}

// sumOf returns the sum of the numbers of some cells.
func sumOf(numbers, cells []int) int {
	sum := 0
	for _, cell := range cells {
		sum += numbers[cell]
	}
	return sum
}
