package fill

import (
	"math/bits"

	"talisman/api"
)

// wordBits is the number of bits of a word.
const wordBits = 64

// words is the number of words of a set.
const words = api.MaxCells / wordBits

// set is a set of numbers from 1 to MaxCells: the number x is the bit x - 1.
type set [words]uint64

// upTo returns the set of the numbers from 1 to n.
func upTo(n int) set {
	var s set
	for x := 1; x <= n; x++ {
		s.add(x)
	}
	return s
}

// placeOf returns the word and the bit of a number.
func placeOf(x int) (word int, bit uint64) {
	return (x - 1) / wordBits, 1 << ((x - 1) % wordBits)
}

func (s *set) add(x int) {
	word, bit := placeOf(x)
	s[word] |= bit
}

func (s *set) remove(x int) {
	word, bit := placeOf(x)
	s[word] &^= bit
}

// has reports whether a number is in the set, whatever number it is.
func (s set) has(x int) bool {
	if x < 1 || x > api.MaxCells {
		return false
	}
	word, bit := placeOf(x)
	return s[word]&bit != 0
}

func (s set) and(other set) set {
	for word := range s {
		s[word] &= other[word]
	}
	return s
}

func (s set) or(other set) set {
	for word := range s {
		s[word] |= other[word]
	}
	return s
}

func (s set) without(other set) set {
	for word := range s {
		s[word] &^= other[word]
	}
	return s
}

func (s set) size() int {
	size := 0
	for _, word := range s {
		size += bits.OnesCount64(word)
	}
	return size
}

// after returns the least number of the set above x, which is not negative, or 0
// if there is none.
func (s set) after(x int) int {
	for word := x / wordBits; word < words; word++ {
		rest := s[word]
		if word == x/wordBits {
			rest = rest >> (x % wordBits) << (x % wordBits)
		}
		if rest != 0 {
			return word*wordBits + bits.TrailingZeros64(rest) + 1
		}
	}
	return 0
}

// greatest returns the greatest number of the set, or 0 if there is none.
func (s set) greatest() int {
	for word := words - 1; word >= 0; word-- {
		if s[word] != 0 {
			return word*wordBits + bits.Len64(s[word])
		}
	}
	return 0
}

// all visits the numbers of the set in ascending order.
func (s set) all(yield func(x int) bool) {
	for x := s.after(0); x != 0; x = s.after(x) {
		if !yield(x) {
			return
		}
	}
}

// leastSum returns the sum of the first numbers of the set, so many of them.
func (s set) leastSum(count int) int {
	sum := 0
	for word, rest := range s {
		for ; rest != 0 && count > 0; count-- {
			sum += word*wordBits + bits.TrailingZeros64(rest) + 1
			rest &= rest - 1
		}
	}
	return sum
}

// greatestSum returns the sum of the last numbers of the set, so many of them.
func (s set) greatestSum(count int) int {
	sum := 0
	for word := words - 1; word >= 0; word-- {
		for rest := s[word]; rest != 0 && count > 0; count-- {
			top := bits.Len64(rest)
			sum += word*wordBits + top
			rest ^= 1 << (top - 1)
		}
	}
	return sum
}
