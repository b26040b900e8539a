package algebra

import (
	"math/big"
	"math/rand"
	"reflect"
	"strings"
	"testing"

	"talisman/api"
)

// want reports a result that is not the wanted one.
func want(t *testing.T, what string, got, wanted any) {
	t.Helper()
	if !reflect.DeepEqual(got, wanted) {
		t.Errorf("%s: got %v, want %v", what, got, wanted)
	}
}

// wantList is want for lists: nil and empty ones are equal.
func wantList[T any](t *testing.T, what string, got, wanted []T) {
	t.Helper()
	if len(got) > 0 || len(wanted) > 0 {
		want(t, what, got, wanted)
	}
}

func digits(digit string, n int) api.Rat {
	return api.Rat(strings.Repeat(digit, n))
}

// tenTo returns 1 with n zeros.
func tenTo(n int) api.Rat {
	return "1" + digits("0", n)
}

// exact is the number of a text that has the form of one, read by math/big.
func exact(a api.Rat) *big.Rat {
	r, ok := new(big.Rat).SetString(string(a))
	if !ok {
		panic("no number: " + string(a))
	}
	return r
}

func textOf(r *big.Rat) api.Rat {
	return api.Rat(r.RatString())
}

// someNumber returns a number with up to so many bits in its numerator and its denominator.
func someNumber(random *rand.Rand, bits int) api.Rat {
	limit := new(big.Int).Lsh(big.NewInt(1), uint(random.Intn(bits)+1))
	num := new(big.Int).Rand(random, limit)
	if random.Intn(2) == 0 {
		num.Neg(num)
	}
	den := big.NewInt(1)
	if random.Intn(3) > 0 {
		den.Add(den, new(big.Int).Rand(random, limit))
	}
	return textOf(new(big.Rat).SetFrac(num, den))
}

// someMatrix returns a matrix with small numbers, many of them 0.
func someMatrix(random *rand.Rand, rows, columns int) [][]api.Rat {
	m := make([][]api.Rat, rows)
	for i := range m {
		for range columns {
			x := api.Rat("0")
			if random.Intn(3) > 0 {
				x, _ = Of(random.Intn(9)-4, random.Intn(3)+1)
			}
			m[i] = append(m[i], x)
		}
	}
	if rows > 1 && random.Intn(3) == 0 {
		copy(m[rows-1], m[0])
	}
	return m
}

func someIntegers(random *rand.Rand, rows, columns, limit int) [][]int {
	m := make([][]int, rows)
	for i := range m {
		for range columns {
			m[i] = append(m[i], random.Intn(2*limit+1)-limit)
		}
	}
	return m
}

func asRats(m [][]int) [][]api.Rat {
	rats := make([][]api.Rat, len(m))
	for i, row := range m {
		for _, x := range row {
			r, _ := Of(x, 1)
			rats[i] = append(rats[i], r)
		}
	}
	return rats
}

// permutations returns all permutations of n in lexicographic order.
func permutations(n int) [][]int {
	var all [][]int
	var extend func(p []int)
	extend = func(p []int) {
		if len(p) == n {
			all = append(all, append([]int(nil), p...))
			return
		}
	next:
		for x := range n {
			for _, y := range p {
				if x == y {
					continue next
				}
			}
			extend(append(p, x))
		}
	}
	extend(nil)
	return all
}

func identity(n int) []int {
	p := make([]int, n)
	for i := range p {
		p[i] = i
	}
	return p
}

func reversed(n int) []int {
	p := make([]int, n)
	for i := range p {
		p[i] = n - 1 - i
	}
	return p
}
