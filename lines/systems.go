package lines

import (
	"iter"
	"slices"

	"talisman/api"
)

// CheckSystem returns the first error of a system, or OK.
func CheckSystem(s api.System) api.Errno {
	if !isWithin(s.Cells, 1, api.MaxCells) {
		return api.ErrRange
	}
	if len(s.Lines) > api.MaxLines {
		return api.ErrMany
	}
	seen := map[string]bool{}
	for _, line := range s.Lines {
		if e := checkLine(line, s.Cells); e != api.OK {
			return e
		}
		text := textOf(line)
		if seen[text] {
			return api.ErrTwice
		}
		seen[text] = true
	}
	return api.OK
}

// checkLine returns the first error that a line has without regard to the others.
func checkLine(line []int, cells int) api.Errno {
	if len(line) == 0 {
		return api.ErrEmpty
	}
	for i, cell := range line {
		if !isWithin(cell, 0, cells-1) {
			return api.ErrUnknown
		}
		if i > 0 && cell <= line[i-1] {
			return api.ErrOrder
		}
	}
	return api.OK
}

// SquareSystem returns the lines of a kind of squares.
func SquareSystem(kind string, n int) (api.System, api.Errno) {
	wanted, known := map[string]int{"semimagic": 0, "magic": 2, "pandiagonal": 2 * n}[kind]
	if !known {
		return api.System{}, api.ErrKind
	}
	if !isWithin(n, 1, api.MaxOrder) {
		return api.System{}, api.ErrRange
	}
	lines := slices.Concat(rowsOf(n, n), columnsOf(n, n))
	for diagonal := range diagonalsOf(n) {
		if wanted == 0 {
			break
		}
		lines = append(lines, diagonal)
		wanted--
	}
	return api.System{Cells: n * n, Lines: distinct(lines...)}, api.OK
}

// diagonalsOf gives out the diagonals of a square in the order in which kinds
// of squares ask for them: the main ones, the other down ones, the other up ones.
func diagonalsOf(n int) iter.Seq[[]int] {
	down := func(k int) []int {
		return lineOf(n, func(r int) int { return n*r + (r+k)%n })
	}
	up := func(k int) []int {
		return lineOf(n, func(r int) int { return n*r + (k-r+n)%n })
	}
	return func(yield func([]int) bool) {
		if !yield(down(0)) || !yield(up(n-1)) {
			return
		}
		for k := 1; k < n; k++ {
			if !yield(down(k)) {
				return
			}
		}
		for k := range n - 1 {
			if !yield(up(k)) {
				return
			}
		}
	}
}

// RowLines returns the rows of a rectangle.
func RowLines(r, c int) (api.System, api.Errno) {
	return rectangle(r, c, rowsOf)
}

// ColumnLines returns the columns of a rectangle.
func ColumnLines(r, c int) (api.System, api.Errno) {
	return rectangle(r, c, columnsOf)
}

func rectangle(r, c int, lines func(r, c int) [][]int) (api.System, api.Errno) {
	if !isWithin(r, 1, api.MaxOrder) || !isWithin(c, 1, api.MaxOrder) {
		return api.System{}, api.ErrRange
	}
	return api.System{Cells: r * c, Lines: lines(r, c)}, api.OK
}

func rowsOf(r, c int) [][]int {
	var rows [][]int
	for i := range r {
		rows = append(rows, lineOf(c, func(k int) int { return c*i + k }))
	}
	return rows
}

func columnsOf(r, c int) [][]int {
	var columns [][]int
	for k := range c {
		columns = append(columns, lineOf(r, func(i int) int { return c*i + k }))
	}
	return columns
}

// Cube returns the lines of a magic cube.
func Cube(n int) (api.System, api.Errno) {
	if !isWithin(n, 1, 6) {
		return api.System{}, api.ErrRange
	}
	at := func(x, y, z int) int { return n*n*x + n*y + z }
	var alongX, alongY, alongZ [][]int
	for a := range n {
		for b := range n {
			alongZ = append(alongZ, lineOf(n, func(i int) int { return at(a, b, i) }))
			alongY = append(alongY, lineOf(n, func(i int) int { return at(a, i, b) }))
			alongX = append(alongX, lineOf(n, func(i int) int { return at(i, a, b) }))
		}
	}
	diagonals := [][]int{
		lineOf(n, func(i int) int { return at(i, i, i) }),
		lineOf(n, func(i int) int { return at(i, i, n-1-i) }),
		lineOf(n, func(i int) int { return at(i, n-1-i, i) }),
		lineOf(n, func(i int) int { return at(i, n-1-i, n-1-i) }),
	}
	lines := distinct(slices.Concat(alongZ, alongY, alongX, diagonals)...)
	return api.System{Cells: n * n * n, Lines: lines}, api.OK
}

// Star returns the lines of a magic star.
func Star(n int) (api.System, api.Errno) {
	if !isWithin(n, 5, api.MaxOrder) {
		return api.System{}, api.ErrRange
	}
	s := api.System{Cells: 2 * n}
	for k := range n {
		line := []int{k, (k + 2) % n, n + k, n + (k+1)%n}
		slices.Sort(line)
		s.Lines = append(s.Lines, line)
	}
	return s, api.OK
}
