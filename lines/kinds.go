package lines

import (
	"slices"

	"talisman/algebra"
	"talisman/api"
)

// Kinds returns the names of all kinds that a square has.
func Kinds(g api.Grid) ([]string, api.Errno) {
	q, e := squareOf(g)
	if e != api.OK {
		return nil, e
	}
	var names []string
	for _, row := range kinds() {
		if row.has(q) {
			names = append(names, row.name)
		}
	}
	return names, api.OK
}

// kind is a kind of squares: its name, and the test whether a square has it.
type kind struct {
	name string
	has  func(q square) bool
}

func kinds() []kind {
	return []kind{
		{"normal", func(q square) bool { return isOneOn(q.cells) }},
		{"semimagic", func(q square) bool { return q.isMagic("semimagic") }},
		{"magic", func(q square) bool { return q.isMagic("magic") }},
		{"pandiagonal", func(q square) bool { return q.isMagic("pandiagonal") }},
		{"associative", square.isAssociative},
		{"most-perfect", square.isMostPerfect},
		{"bordered", square.isBordered},
		{"bimagic", func(q square) bool { return q.power() >= 2 }},
	}
}

// Multimagic returns up to which power the powers of the numbers of a square are magic.
func Multimagic(g api.Grid) (int, api.Errno) {
	q, e := squareOf(g)
	if e != api.OK {
		return 0, e
	}
	if p := q.power(); p > 0 {
		return p, api.OK
	}
	return 0, api.ErrSum
}

// square is a grid without an error, with as many rows as columns.
type square struct {
	order int
	cells []int
}

// squareOf returns the square of a grid, or the grid's first error.
func squareOf(g api.Grid) (square, api.Errno) {
	n := g.Rows
	// An order above the number of cells is looked at first: its square may be
	// more than an int holds.
	if n != g.Cols || n < 0 || n > len(g.Cells) || n*n != len(g.Cells) {
		return square{}, api.ErrShape
	}
	if !isWithin(n, 1, api.MaxOrder) {
		return square{}, api.ErrRange
	}
	if e := checkNumbers(g.Cells); e != api.OK {
		return square{}, e
	}
	return square{n, g.Cells}, api.OK
}

// at returns the number in a row and a column, both modulo the order.
func (q square) at(r, c int) int {
	return q.cells[r%q.order*q.order+c%q.order]
}

// isMagic reports whether the square is magic for the lines of a kind.
func (q square) isMagic(kind string) bool {
	s, _ := SquareSystem(kind, q.order)
	magic, _ := IsMagic(s, q.cells)
	return magic
}

// isSame reports whether a function has one value for all rows and columns.
func (q square) isSame(value func(r, c int) int) bool {
	for r := range q.order {
		for c := range q.order {
			if value(r, c) != value(0, 0) {
				return false
			}
		}
	}
	return true
}

func (q square) isAssociative() bool {
	opposites := func(r, c int) int {
		return q.at(r, c) + q.at(q.order-1-r, q.order-1-c)
	}
	return q.isMagic("magic") && q.isSame(opposites)
}

func (q square) isMostPerfect() bool {
	half := q.order / 2
	block := func(r, c int) int {
		return q.at(r, c) + q.at(r, c+1) + q.at(r+1, c) + q.at(r+1, c+1)
	}
	pair := func(r, c int) int {
		return q.at(r, c) + q.at(r+half, c+half)
	}
	return q.order%2 == 0 && q.isMagic("pandiagonal") && q.isSame(block) && q.isSame(pair)
}

func (q square) isBordered() bool {
	if q.order < 5 {
		return false
	}
	for ; q.order >= 3; q = q.inner() {
		if !q.isMagic("magic") {
			return false
		}
	}
	return true
}

// inner returns the square without its border of one cell. The capacity of
// each row that is taken over ends where the border begins.
func (q square) inner() square {
	var rows [][]int
	for r := 1; r < q.order-1; r++ {
		from, to := r*q.order+1, (r+1)*q.order-1
		rows = append(rows, q.cells[from:to:to])
	}
	return square{q.order - 2, slices.Concat(rows...)}
}

// power returns the greatest number up to 4 such that the powers of the
// numbers with all exponents up to it are magic, or 0.
func (q square) power() int {
	if !q.isMagic("magic") {
		return 0
	}
	p := 1
	for p < 4 && q.hasMagicPowers(p+1) {
		p++
	}
	return p
}

// hasMagicPowers reports whether the square of the powers of the numbers is
// magic. Their sums can be more than an int holds, so they are rational numbers.
func (q square) hasMagicPowers(exponent int) bool {
	numbers := numbersOf(q.cells)
	powers := slices.Clone(numbers)
	for range exponent - 1 {
		for i, x := range numbers {
			powers[i], _ = algebra.Mul(powers[i], x)
		}
	}
	var sums []api.Rat
	s, _ := SquareSystem("magic", q.order)
	for _, line := range s.Lines {
		var onLine []api.Rat
		for _, cell := range line {
			onLine = append(onLine, powers[cell])
		}
		sums = append(sums, sumOf(onLine))
	}
	return len(slices.Compact(sums)) == 1
}
