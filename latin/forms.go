package latin

import (
	"slices"

	"talisman/algebra"
	"talisman/api"
)

// Reduce returns the reduced form of a latin square.
func Reduce(l api.Grid) (api.Grid, api.Errno) {
	q, e := squareOf(l)
	if e != api.OK {
		return api.Grid{}, e
	}
	return q.reduced().grid(), api.OK
}

// Isotope returns a latin square with permuted rows, columns and symbols.
func Isotope(l api.Grid, rows, cols, symbols []int) (api.Grid, api.Errno) {
	q, e := squareOf(l)
	if e != api.OK {
		return api.Grid{}, e
	}
	n := len(q)
	for _, list := range [][]int{rows, cols, symbols} {
		if len(list) != n {
			return api.Grid{}, api.ErrShape
		}
		if algebra.CheckPerm(list) != api.OK {
			return api.Grid{}, api.ErrPerm
		}
	}
	arranged := q.moved(rows, cols)
	return gridOf(n, n, func(i, j int) int { return symbols[arranged[i][j]] }), api.OK
}

// Conjugate returns a latin square whose rows, columns and symbols play other parts.
func Conjugate(l api.Grid, parts [3]int) (api.Grid, api.Errno) {
	q, e := squareOf(l)
	if e != api.OK {
		return api.Grid{}, e
	}
	if algebra.CheckPerm(parts[:]) != api.OK {
		return api.Grid{}, api.ErrPerm
	}
	n := len(q)
	cells := make([]int, n*n)
	for i, row := range q {
		for j, x := range row {
			triple := [3]int{i, j, x}
			cells[n*triple[parts[0]]+triple[parts[1]]] = triple[parts[2]]
		}
	}
	return api.Grid{Rows: n, Cols: n, Cells: cells}, api.OK
}

// Product returns the product of two latin squares.
func Product(a, b api.Grid) (api.Grid, api.Errno) {
	x, y, e := squaresOf(a, b)
	if e != api.OK {
		return api.Grid{}, e
	}
	m, n := len(x), len(y)
	if m*n > api.MaxOrder {
		return api.Grid{}, api.ErrLimit
	}
	return gridOf(m*n, m*n, func(i, j int) int { return n*x[i/n][j/n] + y[i%n][j%n] }), api.OK
}

// reduced returns the reduced form. The first row tells where the columns move
// to; where the rows move to is told by the column that becomes the first one.
func (q square) reduced() square {
	first := slices.Index(q[0], 0)
	var rows []int
	for _, row := range q {
		rows = append(rows, row[first])
	}
	return q.moved(rows, q[0])
}

// moved returns the square whose rows and columns are moved to other places.
func (q square) moved(rows, cols []int) square {
	var arranged square
	for _, row := range q {
		arranged = append(arranged, moved(row, cols))
	}
	return moved(arranged, rows)
}

// moved returns a list, of rows or of the symbols in the columns of a row, each
// of whose elements is moved to another place.
func moved[T any](list []T, to []int) []T {
	result := make([]T, len(list))
	for i, x := range list {
		result[to[i]] = x
	}
	return result
}
