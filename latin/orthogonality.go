package latin

import (
	"talisman/api"
)

// Orthogonal reports whether two latin squares are orthogonal.
func Orthogonal(a, b api.Grid) (bool, api.Errno) {
	_, _, e := Meet(a, b)
	if e == api.ErrNone {
		return true, api.OK
	}
	return false, e
}

// Meet returns the first two cells that have the same pair of symbols.
func Meet(a, b api.Grid) (int, int, api.Errno) {
	x, y, e := squaresOf(a, b)
	if e != api.OK {
		return 0, 0, e
	}
	if len(x) != len(y) {
		return 0, 0, api.ErrShape
	}
	cells := map[[2]int]int{} // the cell that has a pair of symbols
	for cell, symbol := range a.Cells {
		pair := [2]int{symbol, b.Cells[cell]}
		if earlier, found := cells[pair]; found {
			return earlier, cell, api.OK
		}
		cells[pair] = cell
	}
	return 0, 0, api.ErrNone
}
