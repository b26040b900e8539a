package construct

import (
	"talisman/api"
)

// Product returns the composite of two squares.
func Product(a, b api.Grid) (api.Grid, api.Errno) {
	for _, g := range []api.Grid{a, b} {
		if e := checkNormal(g); e != api.OK {
			return api.Grid{}, e
		}
	}
	m, n := a.Rows, b.Rows
	if m*n > api.MaxOrder {
		return api.Grid{}, api.ErrLimit
	}
	return gridOf(m*n, m*n, func(i, j int) int {
		return (at(a, i/n, j/n)-1)*n*n + at(b, i%n, j%n)
	}), api.OK
}

// Rectangle returns a magic rectangle.
func Rectangle(rows, cols int) (api.Grid, api.Errno) {
	if e := checkOrders(rows, cols); e != api.OK {
		return api.Grid{}, e
	}
	if rows%2 == 1 || cols%4 != 0 {
		return api.Grid{}, api.ErrNone
	}
	return gridOf(rows, cols, func(i, j int) int {
		x := i/2*cols + j + 1
		isOuter := j%4 == 0 || j%4 == 3
		if isOuter == (i%2 == 0) {
			return x
		}
		return rows*cols + 1 - x
	}), api.OK
}
