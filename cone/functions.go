package cone

import (
	"slices"
	"strconv"

	"talisman/algebra"
	"talisman/api"
)

// Limits of quasi-polynomials and of sizes.
const (
	mostPeriod = 12
	mostDegree = 12
	mostSizes  = 16
	mostSize   = 24
)

// Quasi returns the quasi-polynomial through counted numbers.
func Quasi(s api.System, period, degree int) (api.Quasi, api.Errno) {
	e := first(CheckCone(s), within(1, mostPeriod, period), within(0, mostDegree, degree))
	if e == api.OK {
		e = atMost(mostSum+1, period*(degree+1), api.ErrLimit)
	}
	if e != api.OK {
		return nil, e
	}
	p := planOf(s)
	var q api.Quasi
	for start := range period {
		var places, numbers []int
		for k := range degree + 1 {
			t := start + k*period
			places = append(places, t)
			numbers = append(numbers, p.number(sameRests(s, t)))
		}
		polynomial, e := through(places, numbers)
		if e != api.OK {
			return nil, e
		}
		q = append(q, polynomial)
	}
	return q, api.OK
}

// through returns the polynomial, with as many coefficients as there are
// places, that has these numbers there.
func through(places, numbers []int) ([]api.Rat, api.Errno) {
	rows := make([][]api.Rat, len(places))
	right := make([]api.Rat, len(places))
	for i, t := range places {
		power := 1
		for range places {
			rows[i] = append(rows[i], integerText(power))
			power *= t
		}
		right[i] = integerText(numbers[i])
	}
	return algebra.Solve(rows, right)
}

func integerText(x int) api.Rat {
	return api.Rat(strconv.Itoa(x))
}

// checkQuasi returns the error of a quasi-polynomial.
func checkQuasi(q api.Quasi) api.Errno {
	if len(q) == 0 {
		return api.ErrEmpty
	}
	if len(q) > api.MaxList {
		return api.ErrMany
	}
	for _, polynomial := range q {
		if len(polynomial) > api.MaxList {
			return api.ErrMany
		}
		for _, x := range polynomial {
			if e := algebra.Check(x); e != api.OK {
				return e
			}
		}
	}
	return api.OK
}

// Value returns the value of a quasi-polynomial.
func Value(q api.Quasi, t int) (api.Rat, api.Errno) {
	if e := first(checkQuasi(q), within(-api.MaxNumber, api.MaxNumber, t)); e != api.OK {
		return "", e
	}
	return valueAt(q, t)
}

// valueAt returns the value of a quasi-polynomial as a determinant: numbers on
// the way can have more digits than those that algebra adds and multiplies.
// When the rows 1, -t are subtracted from the last one, its numbers become
// those of Horner's rule.
func valueAt(q api.Quasi, t int) (api.Rat, api.Errno) {
	polynomial := slices.Clone(q[(t%len(q)+len(q))%len(q)])
	if len(polynomial) == 0 {
		return "0", api.OK
	}
	slices.Reverse(polynomial)
	var rows [][]api.Rat
	for i := range len(polynomial) - 1 {
		row := slices.Repeat([]api.Rat{"0"}, len(polynomial))
		row[i], row[i+1] = "1", integerText(-t)
		rows = append(rows, row)
	}
	return algebra.Determinant(append(rows, polynomial))
}

// Agrees returns the first sum at which a quasi-polynomial does not count fillings.
func Agrees(s api.System, q api.Quasi, upto int) (int, api.Errno) {
	if e := first(CheckCone(s), checkQuasi(q), checkLimit(upto)); e != api.OK {
		return 0, e
	}
	p := planOf(s)
	for t := range upto + 1 {
		// A value with too many digits is no number of fillings.
		value, e := valueAt(q, t)
		if e != api.OK || value != integerText(p.number(sameRests(s, t))) {
			return t, api.OK
		}
	}
	return 0, api.ErrNone
}

// checkSizes returns the error of sizes.
func checkSizes(sizes []int) api.Errno {
	return first(atMost(mostSizes, len(sizes), api.ErrMany), allWithin(1, mostSize, sizes))
}

// Numerator returns the numerator of the generating function.
func Numerator(s api.System, sizes []int, upto int) ([]int, api.Errno) {
	if e := first(CheckCone(s), checkSizes(sizes), checkLimit(upto)); e != api.OK {
		return nil, e
	}
	p := planOf(s)
	var numerator []int
	for t := range upto + 1 {
		numerator = append(numerator, p.number(sameRests(s, t)))
	}
	for _, size := range sizes {
		for t := upto; t >= size; t-- {
			numerator[t] -= numerator[t-size]
		}
	}
	return numerator, api.OK
}

// Coefficient returns a coefficient of a generating function.
func Coefficient(numerator, sizes []int, t int) (int, api.Errno) {
	e := first(
		atMost(api.MaxList, len(numerator), api.ErrMany),
		allWithin(-api.MaxNumber, api.MaxNumber, numerator),
		checkSizes(sizes),
		checkLimit(t),
	)
	if e != api.OK {
		return 0, e
	}
	series := make([]int, t+1)
	series[0] = 1
	for _, size := range sizes {
		for k := size; k <= t; k++ {
			series[k] += series[k-size]
		}
	}
	slices.Reverse(series)
	return product(numerator[:min(t+1, len(numerator))], series)
}

// product returns the sum of the products of numbers of two lists, of which
// the second one has numbers from 0 to 2^40. The sum of their lower bits, and
// that of the others, are added up apart, so that none of them is too great
// where the result is not.
func product(a, b []int) (int, api.Errno) {
	const bits = 20
	high, low := 0, 0
	for i, x := range a {
		high += x * (b[i] >> bits)
		low += x * (b[i] & (1<<bits - 1))
	}
	high += low >> bits
	low &= 1<<bits - 1
	if high<<bits>>bits != high {
		return 0, api.ErrLarge
	}
	return high<<bits + low, api.OK
}
