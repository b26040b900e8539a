// Package algebra is layer 1: exact rational numbers, integers modulo n,
// permutations, and matrices over the rationals and modulo prime numbers.
package algebra

import (
	"talisman/api"
)

// IsName reports whether a text is a name.
func IsName(s string) bool {
	if len(s) == 0 || len(s) > api.MaxName {
		return false
	}
	for i, r := range s {
		if !isLetter(r) && (i == 0 || !isDigit(r) && r != '_') {
			return false
		}
	}
	return true
}

func isLetter(r rune) bool {
	return 'a' <= r && r <= 'z' || 'A' <= r && r <= 'Z'
}

func isDigit(r rune) bool {
	return '0' <= r && r <= '9'
}

// first returns the first error that is not OK.
func first(codes ...api.Errno) api.Errno {
	for _, e := range codes {
		if e != api.OK {
			return e
		}
	}
	return api.OK
}

// within returns ErrRange for an integer that is not from low to high.
func within(n, low, high int) api.Errno {
	if n < low || n > high {
		return api.ErrRange
	}
	return api.OK
}
