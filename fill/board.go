package fill

import (
	"talisman/api"
)

// board is a task with further numbers in some of its open cells.
type board struct {
	task    Task
	numbers []int   // of the cells: 0 in open ones
	unused  set     // the numbers that no cell has
	through [][]int // the lines through each cell
	sums    []int   // of the numbers in the cells of each line
	open    []int   // how many open cells each line has
	wrong   int     // how many lines without open cells have another sum than that of the task
}

// boardOf returns the board of a task, or the task's first error.
func boardOf(t Task) (*board, api.Errno) {
	if e := CheckTask(t); e != api.OK {
		return nil, e
	}
	n, m := t.System.Cells, len(t.System.Lines)
	b := &board{task: t, numbers: make([]int, n), unused: upTo(n), through: make([][]int, n), sums: make([]int, m), open: make([]int, m)}
	for line, members := range t.System.Lines {
		b.open[line] = len(members)
		for _, cell := range members {
			b.through[cell] = append(b.through[cell], line)
		}
	}
	for cell, x := range t.Given {
		if x != 0 {
			b.put(cell, x)
		}
	}
	return b, api.OK
}

// put gives an unused number to an open cell.
func (b *board) put(cell, x int) {
	b.numbers[cell] = x
	b.unused.remove(x)
	for _, line := range b.through[cell] {
		b.sums[line] += x
		b.open[line]--
		if b.isWrong(line) {
			b.wrong++
		}
	}
}

// take takes the number of a cell away, and returns it.
func (b *board) take(cell int) int {
	x := b.numbers[cell]
	for _, line := range b.through[cell] {
		if b.isWrong(line) {
			b.wrong--
		}
		b.sums[line] -= x
		b.open[line]++
	}
	b.unused.add(x)
	b.numbers[cell] = 0
	return x
}

// isWrong reports whether a line has no open cells, and another sum than that of
// the task.
func (b *board) isWrong(line int) bool {
	return b.open[line] == 0 && b.sums[line] != b.task.Sum
}

// openCells returns the cells without a number.
func (b *board) openCells() []int {
	var cells []int
	for cell, x := range b.numbers {
		if x == 0 {
			cells = append(cells, cell)
		}
	}
	return cells
}

func (b *board) hasLine(line int) bool {
	return 0 <= line && line < len(b.sums)
}

// reach returns the least and the greatest sum of a line.
func (b *board) reach(line int) (least, greatest int) {
	return b.sums[line] + b.unused.leastSum(b.open[line]), b.sums[line] + b.unused.greatestSum(b.open[line])
}

func (b *board) isOutOfReach(line int) bool {
	least, greatest := b.reach(line)
	return b.task.Sum < least || b.task.Sum > greatest
}

// firstOutOfReach returns the first line that is out of reach, if there is one.
func (b *board) firstOutOfReach() (line int, found bool) {
	for line := range b.sums {
		if b.isOutOfReach(line) {
			return line, true
		}
	}
	return 0, false
}

// limits returns numbers between which that of an open cell must be, so that no
// line through it misses the sum.
func (b *board) limits(cell int) (low, high int) {
	low, high = 1, len(b.numbers)
	for _, line := range b.through[cell] {
		need, others := b.task.Sum-b.sums[line], b.open[line]-1
		low = max(low, need-b.unused.greatestSum(others))
		high = min(high, need-b.unused.leastSum(others))
	}
	return low, high
}

// canEnd reports whether the lines through a cell that have one open cell can
// have the sum with an unused number.
func (b *board) canEnd(cell int) bool {
	for _, line := range b.through[cell] {
		if b.open[line] == 1 && !b.unused.has(b.task.Sum-b.sums[line]) {
			return false
		}
	}
	return true
}
