package construct

import (
	"talisman/api"
)

// CheckStep returns the first error of a rule of steps, or OK.
func CheckStep(s api.Step) api.Errno {
	if e := checkOrders(s.N); e != api.OK {
		return e
	}
	for _, pair := range [][2]int{s.Start, s.Next, s.Break} {
		if !isWithin(-api.MaxNumber, api.MaxNumber, pair[0], pair[1]) {
			return api.ErrRange
		}
	}
	return api.OK
}

// Place returns the row and the column of a number.
func Place(s api.Step, number int) (int, int, api.Errno) {
	r, e := ruleOf(s)
	if e != api.OK {
		return 0, 0, e
	}
	if !r.hasNumbers(number) {
		return 0, 0, api.ErrRange
	}
	row, column := r.place(number)
	return row, column, api.OK
}

// Uniform returns the square of a rule of steps.
func Uniform(s api.Step) (api.Grid, api.Errno) {
	r, e := ruleOf(s)
	if e != api.OK {
		return api.Grid{}, e
	}
	cells, _, last := r.square()
	if last > 0 {
		return api.Grid{}, api.ErrSingular
	}
	return api.Grid{Rows: r.N, Cols: r.N, Cells: cells}, api.OK
}

// Rules returns the rules of steps of an order, with small numbers, whose squares are of a kind.
func Rules(n int, kind string) ([]api.Step, api.Errno) {
	if e := checkOrders(n); e != api.OK {
		return nil, e
	}
	k, known := kinds()[kind]
	if !known {
		return nil, api.ErrKind
	}
	if n > 5 {
		return nil, api.ErrLimit
	}
	var rules []api.Step
	for code := range n * n * n * n { // its digits to the base n are the numbers of a rule
		next, behind := code/(n*n), code%(n*n)
		s := api.Step{N: n, Next: [2]int{next / n, next % n}, Break: [2]int{behind / n, behind % n}}
		if k.isSaid(rule(s)) {
			rules = append(rules, s)
		}
	}
	if len(rules) > api.MaxList {
		return nil, api.ErrMany
	}
	return rules, api.OK
}

// rule is a rule of steps without an error, whose numbers are from 0 to N - 1,
// so that no sum or product of them is too large.
type rule api.Step

// ruleOf returns the rule of steps, or its first error.
func ruleOf(s api.Step) (rule, api.Errno) {
	if e := CheckStep(s); e != api.OK {
		return rule{}, e
	}
	for axis := range 2 {
		s.Start[axis] = modulo(s.Start[axis], s.N)
		s.Next[axis] = modulo(s.Next[axis], s.N)
		s.Break[axis] = modulo(s.Break[axis], s.N)
	}
	return rule(s), api.OK
}

// hasNumbers reports whether the rule puts these numbers into its square.
func (r rule) hasNumbers(numbers ...int) bool {
	return isWithin(1, r.N*r.N, numbers...)
}

// place returns the row and the column of a number.
func (r rule) place(number int) (row, column int) {
	a, b := (number-1)%r.N, (number-1)/r.N
	along := func(axis int) int {
		return (r.Start[axis] + a*r.Next[axis] + b*r.Break[axis]) % r.N
	}
	return along(0), along(1)
}

// cell returns the cell of a number.
func (r rule) cell(number int) int {
	row, column := r.place(number)
	return r.N*row + column
}

// square puts one number after another on its cell. The first one that meets
// an earlier one ends this; they are 0 and 0 if there is none.
func (r rule) square() (cells []int, earlier, last int) {
	cells = make([]int, r.N*r.N)
	for i := range cells {
		number := i + 1
		cell := r.cell(number)
		if cells[cell] > 0 {
			return nil, cells[cell], number
		}
		cells[cell] = number
	}
	return cells, 0, 0
}
