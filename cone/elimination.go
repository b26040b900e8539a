package cone

import (
	"slices"
)

// integer is a type of numbers of which rows consist. The rows of systems have
// few numbers, and these are 0, 1 and -1: what they are turned into are
// determinants of parts of them, which are small.
type integer interface {
	~int | ~int64
}

// eliminate turns rows into sums of multiples of them: each of the first ones
// has, in a column of its own, a number other than 0, where all others have 0;
// the further ones have 0 in all columns that are looked at. It returns the
// columns of the first ones, in ascending order; left of it, a row has only 0.
// It works in the memory of the rows.
func eliminate[N integer](rows [][]N, columns int) []int {
	var pivots []int
	for column := range columns {
		top := len(pivots)
		below := slices.IndexFunc(rows[top:], func(row []N) bool { return row[column] != 0 })
		if below < 0 {
			continue
		}
		rows[top], rows[top+below] = rows[top+below], rows[top]
		for i, row := range rows {
			if i != top && row[column] != 0 {
				clearColumn(row, rows[top], column)
			}
		}
		pivots = append(pivots, column)
	}
	return pivots
}

// clearColumn subtracts a multiple of the pivot row from one of another row,
// so that this has 0 in the column.
func clearColumn[N integer](row, pivotRow []N, column int) {
	times, less := pivotRow[column], row[column]
	for i, x := range pivotRow {
		row[i] = row[i]*times - x*less
	}
	reduce(row)
}

// reduce divides numbers by their greatest common divisor.
func reduce[N integer](row []N) {
	if divisor := divisorOf(row); divisor > 1 {
		for i := range row {
			row[i] /= divisor
		}
	}
}

// divisorOf returns the greatest common divisor of numbers, or 0 if all are 0.
func divisorOf[N integer](row []N) N {
	divisor := N(0)
	for _, x := range row {
		divisor = common(divisor, x)
	}
	return divisor
}

// common returns the greatest common divisor of two numbers; it is not negative.
func common[N integer](a, b N) N {
	for b != 0 {
		a, b = b, a%b
	}
	return max(a, -a)
}

// solve returns the least integers whose products with the numbers of each row
// add up to a multiple of its last number, the same multiple above 0 in all
// rows, and whether there are just these, and multiples of them. It works in
// the memory of the rows.
func solve[N integer](rows [][]N) ([]N, bool) {
	last := len(rows[0]) - 1
	if len(eliminate(rows, last)) < last {
		return nil, false
	}
	for _, row := range rows[last:] {
		if row[last] != 0 {
			return nil, false
		}
	}
	multiple := N(1)
	for i, row := range rows[:last] {
		divisor := row[i] / common(row[i], row[last])
		multiple *= divisor / common(multiple, divisor)
	}
	multiple = max(multiple, -multiple)
	solution := make([]N, last)
	for i, row := range rows[:last] {
		solution[i] = row[last] * multiple / row[i]
	}
	return solution, true
}
