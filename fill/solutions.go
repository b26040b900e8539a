package fill

import (
	"iter"
	"slices"

	"talisman/api"
)

// Completions returns the first solutions of a task.
func Completions(t Task, most int) ([][]int, api.Errno) {
	e := first(CheckTask(t), within(1, api.MaxList, most))
	if e != api.OK {
		return nil, e
	}
	b, e := searchable(t)
	if e != api.OK {
		return nil, e
	}
	return firstOf(b.inOrder(nil), most), api.OK
}

// Count returns the number of solutions of a task.
func Count(t Task) (int, api.Errno) {
	b, e := searchable(t)
	if e != api.OK {
		return 0, e
	}
	n := b.count()
	if n > api.MaxNumber {
		return 0, api.ErrMany
	}
	return n, api.OK
}

// Unique returns the only solution of a task.
func Unique(t Task) ([]int, api.Errno) {
	b, e := searchable(t)
	if e != api.OK {
		return nil, e
	}
	switch found := b.some(2); len(found) {
	case 0:
		return nil, api.ErrInfeasible
	case 1:
		return found[0], api.OK
	}
	return nil, api.ErrMore
}

// Witnesses returns the first two solutions of a task.
func Witnesses(t Task) ([]int, []int, api.Errno) {
	b, e := searchable(t)
	if e != api.OK {
		return nil, nil, e
	}
	found := firstOf(b.inOrder(nil), 2)
	if len(found) < 2 {
		return nil, nil, api.ErrInfeasible
	}
	return found[0], found[1], api.OK
}

// Forced returns the numbers that all solutions of a task share.
func Forced(t Task) ([]int, api.Errno) {
	b, e := searchable(t)
	if e != api.OK {
		return nil, e
	}
	found := b.some(1)
	if len(found) == 0 {
		return nil, api.ErrInfeasible
	}
	forced := found[0]
	// There may be too many solutions to look at all of them: one with another
	// number in the cell is enough.
	for _, cell := range b.openCells() {
		for x := range b.unused.all {
			if forced[cell] == 0 {
				break
			}
			if x == forced[cell] {
				continue
			}
			b.put(cell, x)
			for _, other := range b.some(1) {
				keepShared(forced, other)
			}
			b.take(cell)
		}
	}
	return forced, api.OK
}

// keepShared takes the numbers out of a filling that another one does not have.
func keepShared(f, other []int) {
	for cell, x := range other {
		if f[cell] != x {
			f[cell] = 0
		}
	}
}

// searchable returns the board of a task that has few enough open cells for an
// exact search, or the first error.
func searchable(t Task) (*board, api.Errno) {
	b, e := boardOf(t)
	if e == api.OK && b.unused.size() > api.MaxSearch {
		return nil, api.ErrLimit
	}
	return b, e
}

// firstOf returns the first fillings of a sequence, at most so many.
func firstOf(fillings iter.Seq[[]int], most int) [][]int {
	var list [][]int
	for f := range fillings {
		list = append(list, f)
		if len(list) == most {
			break
		}
	}
	return list
}

// looksAhead is the number of open cells from which on it pays to look for a
// solution with a number before all solutions with it are visited.
const looksAhead = 6

// inOrder visits the solutions in lexicographic order, but for those whose
// numbers in the open cells come before a floor.
func (b *board) inOrder(floor []int) iter.Seq[[]int] {
	return func(yield func([]int) bool) {
		if b.wrong == 0 {
			b.visit(b.openCells(), floor, yield)
		}
	}
}

// visit visits the solutions with all numbers in some cells, the open ones, and
// reports whether it may go on.
func (b *board) visit(cells, floor []int, yield func([]int) bool) bool {
	if len(cells) == 0 {
		return yield(slices.Clone(b.numbers))
	}
	low, high := b.limits(cells[0])
	if len(floor) > 0 {
		low = max(low, floor[0])
	}
	goesOn := true
	for x := b.unused.after(low - 1); goesOn && x != 0 && x <= high; x = b.unused.after(x) {
		var next []int
		if len(floor) > 0 && x == floor[0] {
			next = floor[1:]
		}
		b.put(cells[0], x)
		if b.canEnd(cells[0]) && (len(cells) < looksAhead || b.hasSolution()) {
			goesOn = b.visit(cells[1:], next, yield)
		}
		b.take(cells[0])
	}
	return goesOn
}
