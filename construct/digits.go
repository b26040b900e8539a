package construct

import (
	"talisman/api"
)

// Digits returns the two squares of digits of a square.
func Digits(g api.Grid) (api.Grid, api.Grid, api.Errno) {
	if e := checkNormal(g); e != api.OK {
		return api.Grid{}, api.Grid{}, e
	}
	n := g.Rows
	a := gridOf(n, n, func(i, j int) int { return (at(g, i, j) - 1) % n })
	b := gridOf(n, n, func(i, j int) int { return (at(g, i, j) - 1) / n })
	return a, b, api.OK
}

// FromDigits returns the square with some digits.
func FromDigits(a, b api.Grid) (api.Grid, api.Errno) {
	for _, digits := range []api.Grid{a, b} {
		if e := checkDigits(digits); e != api.OK {
			return api.Grid{}, e
		}
	}
	n := a.Rows
	if n != b.Rows {
		return api.Grid{}, api.ErrShape
	}
	g := gridOf(n, n, func(i, j int) int { return fromDigits(at(a, i, j), at(b, i, j), n) })
	if !isNormal(g.Cells) {
		return api.Grid{}, api.ErrTwice
	}
	return g, api.OK
}

// checkDigits returns the error of a square of digits.
func checkDigits(g api.Grid) api.Errno {
	if e := checkSquare(g); e != api.OK {
		return e
	}
	if !isWithin(0, g.Rows-1, g.Cells...) {
		return api.ErrRange
	}
	return api.OK
}

// fromDigits returns the number of a normal square that has two digits.
func fromDigits(a, b, n int) int {
	return a + n*b + 1
}
