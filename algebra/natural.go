package algebra

import (
	"cmp"
	"math/bits"
	"strconv"
	"strings"
)

// natural is an integer that is not negative: its words of 64 bits, the lowest
// one first, without zeros at the end. Operations never change the words of
// their operands, so that values may share them.
type natural []uint64

func naturalOf(word uint64) natural {
	return natural{word}.trimmed()
}

// trimmed returns the number without zeros at the end.
func (a natural) trimmed() natural {
	n := len(a)
	for n > 0 && a[n-1] == 0 {
		n--
	}
	return a[:n]
}

func (a natural) isOne() bool {
	return len(a) == 1 && a[0] == 1
}

func (a natural) compare(b natural) int {
	if len(a) != len(b) {
		return cmp.Compare(len(a), len(b))
	}
	for i := len(a) - 1; i >= 0; i-- {
		if a[i] != b[i] {
			return cmp.Compare(a[i], b[i])
		}
	}
	return 0
}

func (a natural) plus(b natural) natural {
	if len(a) < len(b) {
		a, b = b, a
	}
	sum := make(natural, len(a)+1)
	carry := uint64(0)
	for i, x := range b {
		sum[i], carry = bits.Add64(a[i], x, carry)
	}
	for i := len(b); i < len(a); i++ {
		sum[i], carry = bits.Add64(a[i], 0, carry)
	}
	sum[len(a)] = carry
	return sum.trimmed()
}

// minus takes away a number that is not greater.
func (a natural) minus(b natural) natural {
	difference := make(natural, len(a))
	borrow := uint64(0)
	for i, x := range b {
		difference[i], borrow = bits.Sub64(a[i], x, borrow)
	}
	for i := len(b); i < len(a); i++ {
		difference[i], borrow = bits.Sub64(a[i], 0, borrow)
	}
	return difference.trimmed()
}

func (a natural) times(b natural) natural {
	if a.isOne() {
		return b
	}
	if b.isOne() {
		return a
	}
	product := make(natural, len(a)+len(b))
	for i, x := range a {
		product[i+len(b)] = addProduct(product[i:i+len(b)], b, x)
	}
	return product.trimmed()
}

// addProduct adds factor times b to the words of total, and returns what is carried beyond them.
func addProduct(total, b []uint64, factor uint64) (carry uint64) {
	for i, x := range b {
		high, low := bits.Mul64(x, factor)
		low, over := bits.Add64(low, carry, 0)
		high += over
		total[i], over = bits.Add64(total[i], low, 0)
		carry = high + over
	}
	return carry
}

// timesPlus returns a times factor, plus addend.
func (a natural) timesPlus(factor, addend uint64) natural {
	result := make(natural, len(a)+1)
	result[0] = addend
	carry := uint64(0)
	for i, x := range a {
		high, low := bits.Mul64(x, factor)
		result[i], carry = bits.Add64(result[i], low, 0)
		result[i+1] = high + carry
	}
	return result.trimmed()
}

const (
	chunkDigits = 19 // as many digits as fit in a word, whatever they are
	chunk       = 10_000_000_000_000_000_000
)

// parse returns the number with these digits.
func parse(digits string) natural {
	var n natural
	for len(digits) > 0 {
		length := (len(digits)-1)%chunkDigits + 1
		word, _ := strconv.ParseUint(digits[:length], 10, 64)
		n = n.timesPlus(chunk, word)
		digits = digits[length:]
	}
	return n
}

// text returns the digits of the number.
func (a natural) text() string {
	digits := ""
	for len(a) > 1 || len(a) == 1 && a[0] >= chunk {
		quotient, rest := a.dividedByWord(chunk)
		low := strconv.FormatUint(rest, 10)
		digits = strings.Repeat("0", chunkDigits-len(low)) + low + digits
		a = quotient
	}
	if len(a) == 0 {
		return "0"
	}
	return strconv.FormatUint(a[0], 10) + digits
}
