package count

import (
	"talisman/api"
)

// Sets returns all sets of numbers with a size and a sum.
func Sets(n, size, sum int) ([][]int, api.Errno) {
	number, e := SetCount(n, size, sum)
	if e = first(e, atMost(MaxFound, number, api.ErrMany)); e != api.OK {
		return nil, e
	}
	return setsFrom(1, n, size, sum), api.OK
}

// SetCount returns how many sets there are.
func SetCount(n, size, sum int) (int, api.Errno) {
	if e := first(within(0, 64, n), within(0, n, size)); e != api.OK {
		return 0, e
	}
	if !isReached(1, n, size, sum) {
		return 0, api.OK
	}
	// By how far their sums are above the least one, the sets are counted by the
	// factors of the powers of q in the Gaussian binomial coefficient: the product
	// of (1 - q^(n-size+i)) / (1 - q^i) for i from 1 to size.
	counts := make([]int, sum-size*(size+1)/2+1)
	counts[0] = 1
	for i := 1; i <= size; i++ {
		for t := len(counts) - 1; t >= n-size+i; t-- {
			counts[t] -= counts[t-(n-size+i)]
		}
		for t := i; t < len(counts); t++ {
			counts[t] += counts[t-i]
		}
	}
	return counts[len(counts)-1], api.OK
}

// setsFrom returns the sets of numbers from low to high, in lexicographic order.
func setsFrom(low, high, size, sum int) [][]int {
	if !isReached(low, high, size, sum) {
		return nil
	}
	if size == 0 {
		return [][]int{{}}
	}
	var sets [][]int
	for x := low; x <= high; x++ {
		for _, rest := range setsFrom(x+1, high, size-1, sum-x) {
			sets = append(sets, append([]int{x}, rest...))
		}
	}
	return sets
}

// isReached reports whether there is a set of numbers from low to high: each sum
// between the least and the greatest one is that of a set.
func isReached(low, high, size, sum int) bool {
	steps := size * (size - 1) / 2
	return size*low+steps <= sum && sum <= size*high-steps
}
