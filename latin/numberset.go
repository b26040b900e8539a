package latin

import (
	"iter"
	"math/bits"
)

// numberSet is a set of numbers below MaxOrder, symbols or columns: the number
// x is the bit 1 << x.
type numberSet uint32

// allBelow returns the set of the numbers from 0 to n - 1.
func allBelow(n int) numberSet {
	return 1<<n - 1
}

func (s numberSet) has(x int) bool {
	return s>>x&1 == 1
}

func (s numberSet) with(x int) numberSet {
	return s | 1<<x
}

func (s numberSet) without(x int) numberSet {
	return s &^ (1 << x)
}

// each gives out the numbers of the set in ascending order.
func (s numberSet) each() iter.Seq[int] {
	return func(yield func(int) bool) {
		for rest := s; rest != 0; rest &= rest - 1 {
			if !yield(bits.TrailingZeros32(uint32(rest))) {
				return
			}
		}
	}
}
