package algebra

import (
	"strings"

	"talisman/api"
)

// rational is a number in lowest terms: its denominator is at least 1, and 0
// has the denominator 1 and is not negative.
type rational struct {
	negative bool
	num, den natural
}

func rationalOf(n int) rational {
	return rational{n < 0, naturalOf(magnitude(n)), natural{1}}
}

// magnitude returns n without its sign; the least machine integer has one, too.
func magnitude(n int) uint64 {
	if n < 0 {
		return -uint64(n)
	}
	return uint64(n)
}

// read returns the number that a text stands for, or the error of the text.
func read(a api.Rat) (rational, api.Errno) {
	digits, negative := strings.CutPrefix(string(a), "-")
	num, den, fraction := strings.Cut(digits, "/")
	if !isNumeral(num) || negative && num == "0" {
		return rational{}, api.ErrForm
	}
	if fraction && (!isNumeral(den) || den == "0" || den == "1") {
		return rational{}, api.ErrForm
	}
	if len(num) > api.MaxDigits || len(den) > api.MaxDigits {
		return rational{}, api.ErrLarge
	}
	if !fraction {
		return rational{negative, parse(num), natural{1}}, api.OK
	}
	r := rational{negative, parse(num), parse(den)}
	if !r.num.gcd(r.den).isOne() {
		return rational{}, api.ErrForm
	}
	return r, api.OK
}

// isNumeral reports whether a text has digits only, without zeros in front.
func isNumeral(s string) bool {
	for _, r := range s {
		if !isDigit(r) {
			return false
		}
	}
	return s == "0" || s != "" && s[0] != '0'
}

// maxWords is more than a number of MaxDigits digits has: 4 bits are more than
// a digit needs.
const maxWords = api.MaxDigits*4/64 + 1

// write returns the text of a number, or ErrLarge if it has too many digits.
func write(a rational) (api.Rat, api.Errno) {
	if len(a.num) > maxWords || len(a.den) > maxWords {
		return "", api.ErrLarge
	}
	text, den := a.num.text(), a.den.text()
	if len(text) > api.MaxDigits || len(den) > api.MaxDigits {
		return "", api.ErrLarge
	}
	if a.negative {
		text = "-" + text
	}
	if !a.den.isOne() {
		text += "/" + den
	}
	return api.Rat(text), api.OK
}

// sign returns -1, 0 or 1.
func (a rational) sign() int {
	switch {
	case len(a.num) == 0:
		return 0
	case a.negative:
		return -1
	}
	return 1
}

func (a rational) negated() rational {
	return rational{!a.negative && len(a.num) > 0, a.num, a.den}
}

// plus looks for common divisors in the denominators first: what the sum can
// have in common with its denominator divides their common divisor.
func (a rational) plus(b rational) rational {
	shared := a.den.gcd(b.den)
	rest := a.den.divided(shared)
	negative, num := signedSum(a.negative, a.num.times(b.den.divided(shared)), b.negative, b.num.times(rest))
	common := num.gcd(shared)
	return rational{negative, num.divided(common), rest.times(b.den.divided(common))}
}

// signedSum adds two numbers that are given by their signs and magnitudes.
func signedSum(minusA bool, a natural, minusB bool, b natural) (negative bool, sum natural) {
	if minusA == minusB {
		return minusA, a.plus(b)
	}
	switch a.compare(b) {
	case 0:
		return false, nil
	case 1:
		return minusA, a.minus(b)
	}
	return minusB, b.minus(a)
}

func (a rational) minus(b rational) rational {
	return a.plus(b.negated())
}

// times divides crosswise before it multiplies: what is left has no common divisor.
func (a rational) times(b rational) rational {
	left, right := a.num.gcd(b.den), b.num.gcd(a.den)
	num := a.num.divided(left).times(b.num.divided(right))
	den := a.den.divided(right).times(b.den.divided(left))
	return rational{a.negative != b.negative && len(num) > 0, num, den}
}

// over divides by a number other than 0.
func (a rational) over(b rational) rational {
	return a.times(rational{b.negative, b.den, b.num})
}

// product returns the sum of the products of the numbers of two lists.
func product(a, b []rational) rational {
	sum := rationalOf(0)
	for i, x := range a {
		sum = sum.plus(x.times(b[i]))
	}
	return sum
}
