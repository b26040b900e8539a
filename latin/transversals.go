package latin

import (
	"slices"

	"talisman/api"
)

// maxTraversed is the greatest order for which Transversals searches.
const maxTraversed = 7

// IsTransversal reports whether columns, one for each row, are a transversal.
func IsTransversal(l api.Grid, t []int) (bool, api.Errno) {
	q, e := squareOf(l)
	if e != api.OK {
		return false, e
	}
	if len(t) != len(q) {
		return false, api.ErrShape
	}
	if !isWithin(0, len(q)-1, t...) {
		return false, api.ErrRange
	}
	return q.isTransversal(t), api.OK
}

// Transversals returns all transversals.
func Transversals(l api.Grid) ([][]int, api.Errno) {
	q, e := squareOf(l)
	if e != api.OK {
		return nil, e
	}
	if len(q) > maxTraversed {
		return nil, api.ErrLimit
	}
	return q.transversals(), api.OK
}

// isTransversal reports whether columns from 0 to n - 1 are a transversal.
func (q square) isTransversal(t []int) bool {
	columns, symbols := allBelow(len(q)), allBelow(len(q))
	for i, j := range t {
		x := q[i][j]
		if !columns.has(j) || !symbols.has(x) {
			return false
		}
		columns, symbols = columns.without(j), symbols.without(x)
	}
	return true
}

func (q square) transversals() [][]int {
	var found [][]int
	var visit func(t []int, columns, symbols numberSet)
	visit = func(t []int, columns, symbols numberSet) {
		if len(t) == len(q) {
			found = append(found, slices.Clone(t))
			return
		}
		for j := range columns.each() {
			if x := q[len(t)][j]; symbols.has(x) {
				visit(append(t, j), columns.without(j), symbols.without(x))
			}
		}
	}
	visit(nil, allBelow(len(q)), allBelow(len(q)))
	return found
}

// Deltas returns how far a latin square is from the addition table.
func Deltas(l api.Grid) (api.Grid, api.Errno) {
	q, e := squareOf(l)
	if e != api.OK {
		return api.Grid{}, e
	}
	return q.deltas(), api.OK
}

// Refute returns the least modulus that proves that there is no transversal.
func Refute(l api.Grid) (int, api.Errno) {
	q, e := squareOf(l)
	if e != api.OK {
		return 0, e
	}
	for d := 2; d <= len(q); d++ {
		if q.isRefutedBy(d) {
			return d, api.OK
		}
	}
	return 0, api.ErrNone
}

// CheckRefute returns OK for a modulus that proves that there is no transversal.
func CheckRefute(l api.Grid, d int) api.Errno {
	q, e := squareOf(l)
	if e != api.OK {
		return e
	}
	if !q.isRefutedBy(d) {
		return api.ErrProof
	}
	return api.OK
}

func (q square) deltas() api.Grid {
	n := len(q)
	return gridOf(n, n, func(i, j int) int { return modulo(q[i][j]-i-j, n) })
}

// isRefutedBy reports whether a number refutes transversals.
func (q square) isRefutedBy(d int) bool {
	n := len(q)
	if d < 2 || n%d != 0 || n*(n-1)/2%d == 0 {
		return false
	}
	for _, delta := range q.deltas().Cells {
		if delta%d != 0 {
			return false
		}
	}
	return true
}
