package algebra

import (
	"math/bits"
)

// gcd is Euclid's algorithm in Lehmer's form: the highest words of both
// numbers tell several steps at once, which are then done together.
func (a natural) gcd(b natural) natural {
	if a.compare(b) < 0 {
		a, b = b, a
	}
	for len(b) > 1 {
		steps := stepsOf(a, b)
		if steps.isNothing() {
			_, rest := a.dividedBy(b)
			a, b = b, rest
		} else {
			a, b = steps.apply(a, b)
		}
	}
	if len(b) == 0 {
		return a
	}
	if b.isOne() {
		return b
	}
	_, rest := a.dividedByWord(b[0])
	return naturalOf(wordGcd(b[0], rest))
}

func wordGcd(a, b uint64) uint64 {
	for b != 0 {
		a, b = b, a%b
	}
	return a
}

// euclid is a number of steps of Euclid's algorithm, done at once: the greater
// and the lesser number that they leave are differences of multiples of a and
// b. Its fields are the factors of a and of b.
type euclid struct {
	greater, lesser [2]uint64
	startsWithA     bool // the greater number is a multiple of a minus one of b, the lesser one the opposite
}

// stepsOf finds steps that are right whatever the lower words are: Collins'
// condition tells when a quotient could depend on them.
func stepsOf(a, b natural) euclid {
	high, low := highestWords(a, b)
	before, here, next := [2]uint64{0, 0}, [2]uint64{1, 0}, [2]uint64{0, 1}
	startsWithA := false
	for low >= next[1] && high-low >= here[1]+next[1] {
		q := high / low
		high, low = low, high%low
		before, here, next = here, next, [2]uint64{here[0] + q*next[0], here[1] + q*next[1]}
		startsWithA = !startsWithA
	}
	return euclid{before, here, startsWithA}
}

// isNothing reports whether the highest words did not tell a step.
func (s euclid) isNothing() bool {
	return s.greater[1] == 0
}

func (s euclid) apply(a, b natural) (greater, lesser natural) {
	if s.startsWithA {
		return difference(a, s.greater[0], b, s.greater[1]), difference(b, s.lesser[1], a, s.lesser[0])
	}
	return difference(b, s.greater[1], a, s.greater[0]), difference(a, s.lesser[0], b, s.lesser[1])
}

// difference returns x a - y b.
func difference(a natural, x uint64, b natural, y uint64) natural {
	return a.timesPlus(x, 0).minus(b.timesPlus(y, 0))
}

// highestWords returns the 64 highest bits of a, and the bits of b in the same places.
func highestWords(a, b natural) (high, low uint64) {
	last := len(a) - 1
	shift := bits.LeadingZeros64(a[last])
	return a.wordsAt(last, shift), b.wordsAt(last, shift)
}

// wordsAt returns a word and the highest bits of the one below it, shifted; words beyond the last are 0.
func (a natural) wordsAt(i, shift int) uint64 {
	word := uint64(0)
	if i < len(a) {
		word = a[i] << shift
	}
	if i-1 < len(a) {
		word |= a[i-1] >> (64 - shift)
	}
	return word
}
