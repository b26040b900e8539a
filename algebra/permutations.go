package algebra

import (
	"iter"
	"slices"

	"talisman/api"
)

// CheckPerm returns the first error of a permutation, or OK.
func CheckPerm(p []int) api.Errno {
	if len(p) > api.MaxList {
		return api.ErrMany
	}
	seen := make([]bool, len(p))
	for _, x := range p {
		if x < 0 || x >= len(p) || seen[x] {
			return api.ErrPerm
		}
		seen[x] = true
	}
	return api.OK
}

// Compose returns the permutation that is first q, and then p.
func Compose(p, q []int) ([]int, api.Errno) {
	if e := first(CheckPerm(p), CheckPerm(q)); e != api.OK {
		return nil, e
	}
	if len(p) != len(q) {
		return nil, api.ErrShape
	}
	both := make([]int, len(p))
	for i, x := range q {
		both[i] = p[x]
	}
	return both, api.OK
}

// Invert returns the inverse of a permutation.
func Invert(p []int) ([]int, api.Errno) {
	if e := CheckPerm(p); e != api.OK {
		return nil, e
	}
	inverse := make([]int, len(p))
	for i, x := range p {
		inverse[x] = i
	}
	return inverse, api.OK
}

// Power returns a power of a permutation.
func Power(p []int, k int) ([]int, api.Errno) {
	if e := CheckPerm(p); e != api.OK {
		return nil, e
	}
	power := make([]int, len(p))
	for cycle := range cyclesOf(p) {
		n := len(cycle)
		shift := (k%n + n) % n
		for i, x := range cycle {
			power[x] = cycle[(i+shift)%n]
		}
	}
	return power, api.OK
}

// Cycles returns the cycles of a permutation.
func Cycles(p []int) ([][]int, api.Errno) {
	if e := CheckPerm(p); e != api.OK {
		return nil, e
	}
	return slices.Collect(cyclesOf(p)), api.OK
}

// Sign returns the sign of a permutation.
func Sign(p []int) (int, api.Errno) {
	if e := CheckPerm(p); e != api.OK {
		return 0, e
	}
	sign := 1
	for cycle := range cyclesOf(p) {
		if len(cycle)%2 == 0 { // a cycle is made of one exchange less than it has elements
			sign = -sign
		}
	}
	return sign, api.OK
}

// cyclesOf gives out the cycles of a permutation in the order of their least
// elements, with which they begin.
func cyclesOf(p []int) iter.Seq[[]int] {
	return func(yield func([]int) bool) {
		seen := make([]bool, len(p))
		for start := range p {
			if seen[start] {
				continue
			}
			var cycle []int
			for i := start; !seen[i]; i = p[i] {
				seen[i] = true
				cycle = append(cycle, i)
			}
			if !yield(cycle) {
				return
			}
		}
	}
}

// Rank returns the place of a permutation in lexicographic order.
func Rank(p []int) (api.Rat, api.Errno) {
	if e := CheckPerm(p); e != api.OK {
		return "", e
	}
	var rank natural
	for i, x := range p {
		lesser := 0
		for _, y := range p[i+1:] {
			if y < x {
				lesser++
			}
		}
		rank = rank.timesPlus(uint64(len(p)-i), uint64(lesser))
	}
	return write(rational{false, rank, natural{1}})
}

// Unrank returns the permutation at a place.
func Unrank(n int, rank api.Rat) ([]int, api.Errno) {
	if e := within(n, 0, api.MaxList); e != api.OK {
		return nil, e
	}
	r, e := read(rank)
	if e != api.OK {
		return nil, e
	}
	if r.negative || !r.den.isOne() {
		return nil, api.ErrRange
	}
	places, rest := factorialDigits(r.num, n)
	if len(rest) > 0 {
		return nil, api.ErrRange
	}
	return pick(places), api.OK
}

// factorialDigits writes a number with n digits, of which the one in place i is
// less than n - i; the rest is how many times n! it is beyond that.
func factorialDigits(number natural, n int) (digits []int, rest natural) {
	digits = make([]int, n)
	for i := n - 1; i >= 0; i-- {
		var digit uint64
		number, digit = number.dividedByWord(uint64(n - i))
		digits[i] = int(digit)
	}
	return digits, number
}

// pick takes, for each place, the element in this place among those that are left.
func pick(places []int) []int {
	left := make([]int, len(places))
	for i := range left {
		left[i] = i
	}
	picked := make([]int, len(places))
	for i, place := range places {
		picked[i] = left[place]
		left = slices.Delete(left, place, place+1)
	}
	return picked
}
