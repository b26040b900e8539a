package group

import (
	"talisman/api"
)

// Dihedral returns the symmetries of a square.
func Dihedral(n int) ([]api.Symmetry, api.Errno) {
	if e := within(1, api.MaxOrder, n); e != api.OK {
		return nil, e
	}
	return groupOfSquare(n,
		func(i, j int) (int, int) { return j, i },
		func(i, j int) (int, int) { return i, n - 1 - j })
}

// Shifts returns the shifts of a square along its rows and columns.
func Shifts(n int) ([]api.Symmetry, api.Errno) {
	if e := within(1, api.MaxOrder, n); e != api.OK {
		return nil, e
	}
	return groupOfSquare(n,
		func(i, j int) (int, int) { return (i + 1) % n, j },
		func(i, j int) (int, int) { return i, (j + 1) % n })
}

// RowColumn returns the exchanges of rows and columns that keep the diagonals.
func RowColumn(n int) ([]api.Symmetry, api.Errno) {
	if e := within(1, api.MaxOrder, n); e != api.OK {
		return nil, e
	}
	// A row and its opposite one are a pair: pairs are turned, and neighbouring
	// ones exchanged.
	var moves []move
	for k := range n / 2 {
		moves = append(moves, alike(exchange(k, n-1-k)))
		if k > 0 {
			rows, opposites := exchange(k-1, k), exchange(n-k, n-1-k)
			moves = append(moves, alike(func(i int) int { return opposites(rows(i)) }))
		}
	}
	l, e := groupOfSquare(n, moves...)
	if e == api.ErrLimit {
		return nil, api.ErrMany
	}
	return l, e
}

// move tells to which row and column of a square a cell moves.
type move func(i, j int) (int, int)

// alike moves rows and columns alike.
func alike(q func(i int) int) move {
	return func(i, j int) (int, int) { return q(i), q(j) }
}

// exchange exchanges two numbers.
func exchange(a, b int) func(i int) int {
	return func(i int) int {
		switch i {
		case a:
			return b
		case b:
			return a
		}
		return i
	}
}

// groupOfSquare returns the least group that contains some moves of the cells of
// a square.
func groupOfSquare(n int, moves ...move) ([]api.Symmetry, api.Errno) {
	var l []api.Symmetry
	for _, to := range moves {
		var cells []int
		for i := range n {
			for j := range n {
				row, column := to(i, j)
				cells = append(cells, n*row+column)
			}
		}
		l = append(l, api.Symmetry{Cells: cells})
	}
	return Closure(l, n*n)
}
