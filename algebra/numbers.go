package algebra

import (
	"talisman/api"
)

// Check returns the first error of a number, or OK.
func Check(a api.Rat) api.Errno {
	_, e := read(a)
	return e
}

// Of returns num / den.
func Of(num, den int) (api.Rat, api.Errno) {
	if den == 0 {
		return "", api.ErrZero
	}
	return write(rationalOf(num).over(rationalOf(den)))
}

// Add returns the sum.
func Add(a, b api.Rat) (api.Rat, api.Errno) { return combine(a, b, rational.plus) }

// Sub returns the difference.
func Sub(a, b api.Rat) (api.Rat, api.Errno) { return combine(a, b, rational.minus) }

// Mul returns the product.
func Mul(a, b api.Rat) (api.Rat, api.Errno) { return combine(a, b, rational.times) }

// Div returns the quotient.
func Div(a, b api.Rat) (api.Rat, api.Errno) {
	if b == "0" {
		return "", first(Check(a), api.ErrZero)
	}
	return combine(a, b, rational.over)
}

// Compare returns -1, 0 or 1.
func Compare(a, b api.Rat) (int, api.Errno) {
	x, y, e := readTwo(a, b)
	if e != api.OK {
		return 0, e
	}
	return x.minus(y).sign(), api.OK
}

func combine(a, b api.Rat, operation func(x, y rational) rational) (api.Rat, api.Errno) {
	x, y, e := readTwo(a, b)
	if e != api.OK {
		return "", e
	}
	return write(operation(x, y))
}

func readTwo(a, b api.Rat) (x, y rational, e api.Errno) {
	x, left := read(a)
	y, right := read(b)
	return x, y, first(left, right)
}

// Gcd returns the greatest common divisor.
func Gcd(a, b int) (int, api.Errno) {
	if e := first(bounded(a), bounded(b)); e != api.OK {
		return 0, e
	}
	return int(wordGcd(magnitude(a), magnitude(b))), api.OK
}

// Inverse returns the inverse modulo n.
func Inverse(a, n int) (int, api.Errno) {
	if e := first(bounded(a), within(n, 1, api.MaxNumber)); e != api.OK {
		return 0, e
	}
	inverse, found := inverseModulo(int64(a), int64(n))
	if !found {
		return 0, api.ErrNone
	}
	return int(inverse), api.OK
}

// IsPrime reports whether a number is a prime number.
func IsPrime(n int) (bool, api.Errno) {
	if e := within(n, 0, api.MaxNumber); e != api.OK {
		return false, e
	}
	return hasNoDivisor(n), api.OK
}

// bounded returns the error of an integer that an argument or a matrix has.
func bounded(n int) api.Errno {
	return within(n, -api.MaxNumber, api.MaxNumber)
}

// hasNoDivisor reports whether n is at least 2 and nothing between 1 and n divides it.
func hasNoDivisor(n int) bool {
	if n < 2 {
		return false
	}
	for d := 2; d <= n/d; d++ {
		if n%d == 0 {
			return false
		}
	}
	return true
}

// remainder returns the integer from 0 to n - 1 that is a modulo n.
func remainder(a, n int64) int64 {
	return (a%n + n) % n
}

// inverseModulo is Euclid's algorithm: each rest is a multiple of a, modulo n,
// with the factor that stands beside it.
func inverseModulo(a, n int64) (inverse int64, found bool) {
	rest, next := n, remainder(a, n)
	factor, nextFactor := int64(0), int64(1)
	for next != 0 {
		q := rest / next
		rest, next = next, rest-q*next
		factor, nextFactor = nextFactor, factor-q*nextFactor
	}
	if rest != 1 {
		return 0, false
	}
	return remainder(factor, n), true
}
