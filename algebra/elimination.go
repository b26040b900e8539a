package algebra

import (
	"slices"
)

// echelon is a reduced echelon form, and how it was reached.
type echelon[T any] struct {
	rows    [][]T
	columns []int // of each row the column of its first number
	pivots  []T   // what each row was divided by
	odd     bool  // rows changed places an odd number of times
}

// eliminate turns m into its reduced echelon form. It works in the memory of m.
func eliminate[T any](f field[T], m [][]T) echelon[T] {
	result := echelon[T]{}
	from := 0
	for top := range m {
		row, column, found := nextPivot(f, m, top, from)
		if !found {
			break
		}
		if row != top {
			m[row], m[top] = m[top], m[row]
			result.odd = !result.odd
		}
		pivot := m[top][column]
		divide(f, m[top][column:], pivot)
		for i, other := range m {
			if i != top {
				clearFirst(f, other[column:], m[top][column:])
			}
		}
		result.columns = append(result.columns, column)
		result.pivots = append(result.pivots, pivot)
		from = column + 1
	}
	result.rows = m[:len(result.pivots)]
	return result
}

// nextPivot finds the first column, from a given one on, in which a row from
// top on has a number that is not 0, and the first one of these rows.
func nextPivot[T any](f field[T], m [][]T, top, from int) (row, column int, found bool) {
search:
	for column = from; column < width(m); column++ {
		for row = top; row < len(m); row++ {
			if !f.isZero(m[row][column]) {
				found = true
				break search
			}
		}
	}
	return row, column, found
}

func divide[T any](f field[T], row []T, divisor T) {
	for i, x := range row {
		if !f.isZero(x) {
			row[i] = f.over(x, divisor)
		}
	}
}

// clearFirst takes so many times the pivot row, which begins with 1, from a row that this one then begins with 0.
func clearFirst[T any](f field[T], row, pivotRow []T) {
	factor := row[0]
	if f.isZero(factor) {
		return
	}
	for i, x := range pivotRow {
		if !f.isZero(x) {
			row[i] = f.minus(row[i], f.times(factor, x))
		}
	}
}

func width[T any](m [][]T) int {
	if len(m) == 0 {
		return 0
	}
	return len(m[0])
}

// nullSpace returns the reduced basis of the null space. It eliminates with the
// columns in reverse order: then each column without a pivot gives a list with
// 1 in its place and 0 before it, and these lists are already reduced. It works
// in the memory of m.
func nullSpace[T any](f field[T], m [][]T) [][]T {
	for _, row := range m {
		slices.Reverse(row)
	}
	n := width(m)
	reversed := eliminate(f, m)
	var basis [][]T
	for column := n - 1; column >= 0; column-- {
		if slices.Contains(reversed.columns, column) {
			continue
		}
		list := filled(n, f.of(0))
		list[column] = f.of(1)
		for i, row := range reversed.rows {
			list[reversed.columns[i]] = f.minus(f.of(0), row[column])
		}
		slices.Reverse(list)
		basis = append(basis, list)
	}
	return basis
}

func filled[T any](n int, x T) []T {
	return slices.Repeat([]T{x}, n)
}

// solve returns the solution that has 0 where there is no pivot, if there is one.
func solve[T any](f field[T], m [][]T, right []T) (solution []T, found bool) {
	n := width(m)
	joined := make([][]T, len(m))
	for i, row := range m {
		joined[i] = slices.Concat(row, right[i:i+1])
	}
	result := eliminate(f, joined)
	solution = filled(n, f.of(0))
	for i, column := range result.columns {
		if column == n { // this equation is 0 = 1
			return nil, false
		}
		solution[column] = result.rows[i][n]
	}
	return solution, true
}

// determinant returns the determinant of a matrix with as many columns as rows.
func determinant[T any](f field[T], m [][]T) T {
	result := eliminate(f, m)
	if len(result.rows) < len(m) {
		return f.of(0)
	}
	value := f.of(1)
	if result.odd {
		value = f.of(-1)
	}
	for _, pivot := range result.pivots {
		value = f.times(value, pivot)
	}
	return value
}
