package latin

import (
	"slices"

	"talisman/api"
)

// Intercalates returns the number of subsquares of the order 2.
func Intercalates(l api.Grid) (int, api.Errno) {
	q, e := squareOf(l)
	if e != api.OK {
		return 0, e
	}
	count := 0
	for k, lower := range q {
		for _, upper := range q[:k] {
			count += intercalates(upper, lower)
		}
	}
	return count, api.OK
}

// intercalates returns the number of subsquares of the order 2 in two rows.
func intercalates(upper, lower []int) int {
	count := 0
	for m := range upper {
		for j := range m {
			if upper[j] == lower[m] && upper[m] == lower[j] {
				count++
			}
		}
	}
	return count
}

// Kinds returns the names of the kinds of a latin square.
func Kinds(l api.Grid) ([]string, api.Errno) {
	q, e := squareOf(l)
	if e != api.OK {
		return nil, e
	}
	var names []string
	for _, k := range kinds() {
		if k.has(q) {
			names = append(names, k.name)
		}
	}
	return names, api.OK
}

// kind is a kind of latin squares: its name, and the test whether a square has it.
type kind struct {
	name string
	has  func(q square) bool
}

func kinds() []kind {
	return []kind{
		{"reduced", square.isReduced},
		{"symmetric", square.isSymmetric},
		{"idempotent", square.isIdempotent},
		{"unipotent", square.isUnipotent},
		{"diagonal", square.isDiagonal},
		{"pandiagonal", square.isPandiagonal},
		{"group", square.isGroup},
	}
}

func (q square) isReduced() bool {
	return slices.Equal(q.reduced().grid().Cells, q.grid().Cells)
}

func (q square) isSymmetric() bool {
	for i, row := range q {
		for j, x := range row {
			if x != q[j][i] {
				return false
			}
		}
	}
	return true
}

func (q square) isIdempotent() bool {
	for i, row := range q {
		if row[i] != i {
			return false
		}
	}
	return true
}

func (q square) isUnipotent() bool {
	for i, row := range q {
		if row[i] != q[0][0] {
			return false
		}
	}
	return true
}

func (q square) isDiagonal() bool {
	n := len(q)
	down := func(i int) int { return i }
	up := func(i int) int { return n - 1 - i }
	return q.hasTransversal(down) && q.hasTransversal(up)
}

func (q square) isPandiagonal() bool {
	n := len(q)
	for k := range n {
		down := func(i int) int { return (i + k) % n }
		up := func(i int) int { return modulo(k-i, n) }
		if !q.hasTransversal(down) || !q.hasTransversal(up) {
			return false
		}
	}
	return true
}

// hasTransversal reports whether the columns that a function tells for the rows
// are a transversal. Where the columns differ, this says that each symbol is once
// on their cells.
func (q square) hasTransversal(column func(i int) int) bool {
	var t []int
	for i := range q {
		t = append(t, column(i))
	}
	return q.isTransversal(t)
}

// isGroup reports whether the reduced form, in which 0 is neutral, is associative.
func (q square) isGroup() bool {
	r := q.reduced()
	for x, row := range r {
		for y, xy := range row {
			for z := range r {
				if r[xy][z] != r[x][r[y][z]] {
					return false
				}
			}
		}
	}
	return true
}
