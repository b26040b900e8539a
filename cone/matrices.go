package cone

import (
	"slices"

	"talisman/algebra"
	"talisman/api"
)

// Birkhoff returns a matrix as a sum of permutation matrices.
func Birkhoff(m [][]int) ([]Term, api.Errno) {
	if e := checkMatrix(m); e != api.OK {
		return nil, e
	}
	rest := make([][]int, len(m))
	for i, row := range m {
		rest[i] = slices.Clone(row)
	}
	var terms []Term
	// All rows have the same sum: as long as there is something left in one of
	// them, it is in all of them.
	for len(rest) > 0 && slices.Max(rest[0]) > 0 {
		perm := firstPermutation(rest)
		times := api.MaxNumber
		for i, k := range perm {
			times = min(times, rest[i][k])
		}
		for i, k := range perm {
			rest[i][k] -= times
		}
		terms = append(terms, Term{perm, times})
	}
	return terms, api.OK
}

// checkMatrix returns the error of a matrix.
func checkMatrix(m [][]int) api.Errno {
	if len(m) > api.MaxOrder {
		return api.ErrMany
	}
	for _, row := range m {
		if len(row) != len(m) {
			return api.ErrShape
		}
	}
	rows, columns := make([]int, len(m)), make([]int, len(m))
	for i, row := range m {
		if e := allWithin(0, api.MaxNumber, row); e != api.OK {
			return e
		}
		for k, x := range row {
			rows[i] += x
			columns[k] += x
		}
	}
	if sums := slices.Compact(slices.Concat(rows, columns)); len(sums) > 1 {
		return api.ErrSum
	}
	return api.OK
}

// firstPermutation returns the lexicographically first permutation with
// numbers above 0 in all rows, of a matrix that has one.
func firstPermutation(m [][]int) []int {
	perm := make([]int, 0, len(m))
	for len(perm) < len(m) {
		column := 0
		for !hasPermutation(m, append(perm, column)) {
			column++
		}
		perm = append(perm, column)
	}
	return perm
}

// hasPermutation reports whether there is a permutation with numbers above 0
// in all rows that begins with these columns.
func hasPermutation(m [][]int, beginning []int) bool {
	owner := slices.Repeat([]int{-1}, len(m)) // of each column its row
	for row, column := range beginning {
		if m[row][column] == 0 || owner[column] >= 0 {
			return false
		}
		owner[column] = row
	}
	for row := len(beginning); row < len(m); row++ {
		if !place(m, owner, len(beginning), row) {
			return false
		}
	}
	return true
}

// place gives a column to one more row, if other rows, from a movable one on,
// take other columns for this: each row that is to move on asks for the
// columns that no row has asked for.
func place(m [][]int, owner []int, movable, row int) bool {
	before := slices.Repeat([]int{-1}, len(m)) // of each column the row that asked for it
	rows := []int{row}
	free := -1
search:
	for len(rows) > 0 {
		asking := rows[0]
		rows = rows[1:]
		for column, x := range m[asking] {
			if x == 0 || before[column] >= 0 || 0 <= owner[column] && owner[column] < movable {
				continue
			}
			before[column] = asking
			if owner[column] < 0 {
				free = column
				break search
			}
			rows = append(rows, owner[column])
		}
	}
	if free < 0 {
		return false
	}
	give(owner, before, free, row)
	return true
}

// give moves rows from column to column until one more row has a column.
func give(owner, before []int, column, row int) {
	for {
		asking := before[column]
		previous := slices.Index(owner, asking)
		owner[column] = asking
		if asking == row {
			return
		}
		column = previous
	}
}

// CheckBirkhoff returns OK for permutation matrices that add up to a matrix.
func CheckBirkhoff(m [][]int, terms []Term) api.Errno {
	if e := checkMatrix(m); e != api.OK {
		return e
	}
	if e := atMost(mostTerms(len(m)), len(terms), api.ErrMany); e != api.OK {
		return e
	}
	rest := make([][]int, len(m))
	for i, row := range m {
		rest[i] = slices.Clone(row)
	}
	for _, term := range terms {
		if len(term.Perm) != len(m) || algebra.CheckPerm(term.Perm) != api.OK {
			return api.ErrPerm
		}
		if e := within(1, api.MaxNumber, term.Times); e != api.OK {
			return e
		}
		for i, k := range term.Perm {
			rest[i][k] -= term.Times
		}
	}
	isLeft := func(row []int) bool { return slices.ContainsFunc(row, func(x int) bool { return x != 0 }) }
	if slices.ContainsFunc(rest, isLeft) {
		return api.ErrProof
	}
	return api.OK
}

// mostTerms returns how many terms a matrix of an order needs at most.
func mostTerms(n int) int {
	if n == 0 {
		return 0
	}
	return (n-1)*(n-1) + 1
}
