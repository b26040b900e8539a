package algebra

import (
	"math"
	"math/bits"
)

// divided returns the quotient by a number other than 0, without the remainder.
func (a natural) divided(b natural) natural {
	if b.isOne() {
		return a
	}
	quotient, _ := a.dividedBy(b)
	return quotient
}

// dividedBy returns quotient and remainder of a division by a number other than 0.
func (a natural) dividedBy(b natural) (quotient, rest natural) {
	if a.compare(b) < 0 {
		return nil, a
	}
	if len(b) == 1 {
		quotient, word := a.dividedByWord(b[0])
		return quotient, naturalOf(word)
	}
	return a.longDivision(b)
}

func (a natural) dividedByWord(b uint64) (quotient natural, rest uint64) {
	quotient = make(natural, len(a))
	for i := len(a) - 1; i >= 0; i-- {
		quotient[i], rest = bits.Div64(rest, a[i], b)
	}
	return quotient.trimmed(), rest
}

// longDivision is Knuth's algorithm D: both numbers are shifted until the
// divisor's highest bit is set, because then a word of the quotient that is
// guessed from the highest words is at most 1 too large.
func (a natural) longDivision(b natural) (quotient, rest natural) {
	shift := bits.LeadingZeros64(b[len(b)-1])
	n := len(b)
	divisor := b.shiftedLeft(shift)[:n]
	words := a.shiftedLeft(shift)
	quotient = make(natural, len(a)-n+1)
	for i := len(quotient) - 1; i >= 0; i-- {
		part := words[i : i+n+1]
		guess := guessQuotient(part, divisor)
		if subtractProduct(part, divisor, guess) != 0 {
			guess--
			addBack(part, divisor)
		}
		quotient[i] = guess
	}
	return quotient.trimmed(), words[:n].shiftedRight(shift)
}

// guessQuotient divides the three highest words of part by the two of divisor.
func guessQuotient(part, divisor []uint64) uint64 {
	n := len(divisor)
	high, next, third := part[n], part[n-1], part[n-2]
	if high >= divisor[n-1] {
		return math.MaxUint64
	}
	guess, rest := bits.Div64(high, next, divisor[n-1])
	for {
		over, low := bits.Mul64(guess, divisor[n-2])
		if over < rest || over == rest && low <= third {
			return guess
		}
		guess--
		rest += divisor[n-1]
		if rest < divisor[n-1] { // beyond a word: the next guess is not too large
			return guess
		}
	}
}

// subtractProduct takes factor times b from the words of total, and returns what is borrowed beyond them.
func subtractProduct(total, b []uint64, factor uint64) uint64 {
	carry := uint64(0)
	for i, x := range b {
		high, low := bits.Mul64(x, factor)
		low, over := bits.Add64(low, carry, 0)
		high += over
		total[i], over = bits.Sub64(total[i], low, 0)
		carry = high + over
	}
	last := len(b)
	var borrow uint64
	total[last], borrow = bits.Sub64(total[last], carry, 0)
	return borrow
}

// addBack adds b to the words of total; what is carried beyond them makes up for what was borrowed.
func addBack(total, b []uint64) {
	carry := uint64(0)
	for i, x := range b {
		total[i], carry = bits.Add64(total[i], x, carry)
	}
	total[len(b)] += carry
}

// shiftedLeft returns the number shifted by less than a word, always with one word more.
func (a natural) shiftedLeft(shift int) natural {
	words := make(natural, len(a)+1)
	for i, x := range a {
		words[i] |= x << shift
		words[i+1] = x >> (64 - shift)
	}
	return words
}

// shiftedRight returns the number shifted by less than a word.
func (a natural) shiftedRight(shift int) natural {
	words := make(natural, len(a))
	for i, x := range a {
		words[i] = x >> shift
		if i+1 < len(a) {
			words[i] |= a[i+1] << (64 - shift)
		}
	}
	return words.trimmed()
}
