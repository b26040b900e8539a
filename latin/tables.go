package latin

import (
	"talisman/algebra"
	"talisman/api"
)

// Cyclic returns the addition table modulo n.
func Cyclic(n int) (api.Grid, api.Errno) {
	return Linear(n, 1, 1)
}

// Linear returns the square of a linear form modulo n.
func Linear(n, a, b int) (api.Grid, api.Errno) {
	if e := checkOrder(n); e != api.OK {
		return api.Grid{}, e
	}
	if !isWithin(-api.MaxNumber, api.MaxNumber, a, b) {
		return api.Grid{}, api.ErrRange
	}
	if !isPrimeTo(a, n) || !isPrimeTo(b, n) {
		return api.Grid{}, api.ErrSingular
	}
	a, b = modulo(a, n), modulo(b, n)
	return gridOf(n, n, func(i, j int) int { return (a*i + b*j) % n }), api.OK
}

func isPrimeTo(a, n int) bool {
	divisor, _ := algebra.Gcd(a, n)
	return divisor == 1
}

// Field returns the tables of addition and multiplication of a finite field.
func Field(q int) (api.Grid, api.Grid, api.Errno) {
	f, e := fieldOf(q)
	if e != api.OK {
		return api.Grid{}, api.Grid{}, e
	}
	return gridOf(q, q, f.plus), gridOf(q, q, f.times), api.OK
}

// Family returns the complete family of orthogonal squares of a finite field.
func Family(q int) ([]api.Grid, api.Errno) {
	f, e := fieldOf(q)
	if e != api.OK {
		return nil, e
	}
	var squares []api.Grid
	for k := 1; k < q; k++ {
		squares = append(squares, gridOf(q, q, func(i, j int) int { return f.plus(f.times(k, i), j) }))
	}
	return squares, api.OK
}

// field is a finite field: the number of its elements, the prime number p of
// which this is a power, and the element that is the first power of x without a
// digit of its own. (A prime field has one digit; that power is 0 as it is x^1.)
type field struct {
	q, p, power int
}

// fieldOf returns the field with q elements.
func fieldOf(q int) (field, api.Errno) {
	if e := checkOrder(q); e != api.OK {
		return field{}, e
	}
	if prime, _ := algebra.IsPrime(q); prime {
		return field{q: q, p: q}, api.OK
	}
	switch q {
	case 4, 8, 16:
		return field{q: q, p: 2, power: 3}, api.OK // x^2, x^3 and x^4 are x + 1
	case 9:
		return field{q: q, p: 3, power: 2}, api.OK // x^2 is -1
	}
	return field{}, api.ErrPrime
}

// plus adds the digits to the base p, each of them modulo p.
func (f field) plus(a, b int) int {
	sum := 0
	for place := 1; place < f.q; place *= f.p {
		sum += (a/place + b/place) % f.p * place
	}
	return sum
}

// times multiplies b by one digit of a after another, from the first one on.
func (f field) times(a, b int) int {
	product := 0
	for place := f.q / f.p; place > 0; place /= f.p {
		product = f.plus(f.timesX(product), f.multiple(a/place%f.p, b))
	}
	return product
}

// timesX moves the digits by one place; the first one becomes a multiple of the
// power of x for which there is no place.
func (f field) timesX(a int) int {
	moved := a * f.p
	return f.plus(moved%f.q, f.multiple(moved/f.q, f.power))
}

// multiple returns the sum of some terms that are all a.
func (f field) multiple(terms, a int) int {
	sum := 0
	for range terms {
		sum = f.plus(sum, a)
	}
	return sum
}
