package fill

import (
	"slices"
)

// What a search remembers: situations with at most so many lines that are begun,
// and at least so many open cells, at most so many situations.
const (
	mostBegun = 4
	leastOpen = 4
	mostKnown = 1 << 20
)

// sumBits is the number of bits of the sum of a line, whose numbers are 1 to
// MaxCells at most.
const sumBits = 16

// situation tells what is left to be done: the unused numbers, and the sums of
// the lines that are begun.
type situation [words + 1]uint64

// search counts solutions, or visits them in any order. Situations that come again
// are counted once, so that few lines with many solutions are no matter of trying
// all of them.
type search struct {
	board *board
	cells []int   // the open cells of the task, in the order of the search
	begun [][]int // the lines that are begun, and not at their end, behind so many cells
	known map[situation]int
	visit func(f []int) bool // nil if solutions are only counted
	over  bool
}

func searchOf(b *board, visit func(f []int) bool) *search {
	s := &search{board: b, known: map[situation]int{}, visit: visit}
	open := slices.Clone(b.open)
	for cells := b.openCells(); len(cells) > 0; {
		var begun []int
		for line := range open {
			if 0 < open[line] && open[line] < b.open[line] {
				begun = append(begun, line)
			}
		}
		next := b.mostBound(cells, open)
		cells = slices.DeleteFunc(cells, func(cell int) bool { return cell == next })
		s.cells = append(s.cells, next)
		s.begun = append(s.begun, begun)
		for _, line := range b.through[next] {
			open[line]--
		}
	}
	return s
}

// mostBound returns the cell that has the line with the fewest open cells, and of
// several ones that with the most lines.
func (b *board) mostBound(cells, open []int) int {
	best, fewest := -1, len(b.numbers)+1
	for _, cell := range cells {
		left := len(b.numbers)
		for _, line := range b.through[cell] {
			left = min(left, open[line])
		}
		if left < fewest || left == fewest && len(b.through[cell]) > len(b.through[best]) {
			best, fewest = cell, left
		}
	}
	return best
}

// count returns the number of solutions.
func (b *board) count() int {
	return searchOf(b, nil).behind(0)
}

// some returns some solutions, at most so many.
func (b *board) some(most int) [][]int {
	var found [][]int
	searchOf(b, func(f []int) bool {
		found = append(found, f)
		return len(found) < most
	}).behind(0)
	return found
}

func (b *board) hasSolution() bool {
	return len(b.some(1)) > 0
}

// behind returns how many solutions there are behind the numbers of the first
// cells, and visits them.
func (s *search) behind(length int) int {
	if s.board.wrong > 0 {
		return 0
	}
	if length == len(s.cells) {
		s.over = s.visit != nil && !s.visit(slices.Clone(s.board.numbers))
		return 1
	}
	if !s.isKept(length) {
		return s.tried(length)
	}
	key := s.situation(length)
	n, isKnown := s.known[key]
	if isKnown && (n == 0 || s.visit == nil) {
		return n
	}
	n = s.tried(length)
	if !s.over && len(s.known) < mostKnown {
		s.known[key] = n
	}
	return n
}

// tried returns what is behind all numbers for the next cell together.
func (s *search) tried(length int) int {
	cell, n := s.cells[length], 0
	low, high := s.board.limits(cell)
	for x := s.board.unused.after(low - 1); x != 0 && x <= high && !s.over; x = s.board.unused.after(x) {
		s.board.put(cell, x)
		if s.board.canEnd(cell) {
			n += s.behind(length + 1)
		}
		s.board.take(cell)
	}
	return n
}

// isKept reports whether situations with numbers in the first cells are worth
// remembering.
func (s *search) isKept(length int) bool {
	return len(s.begun[length]) <= mostBegun && len(s.cells)-length >= leastOpen
}

// situation returns the situation with numbers in the first cells.
func (s *search) situation(length int) situation {
	var key situation
	copy(key[:], s.board.unused[:])
	for _, line := range s.begun[length] {
		key[words] = key[words]<<sumBits | uint64(s.board.sums[line])
	}
	return key
}
