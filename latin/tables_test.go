package latin

import (
	"math"
	"math/rand"
	"testing"

	"talisman/api"
)

func TestCheck(t *testing.T) { // P4.1
	for what, row := range badSquares() {
		before := copyOf(row.g)
		want(t, "Check of "+what, Check(row.g), row.e)
		wantGrid(t, what+" afterwards", row.g, api.OK, before, api.OK)
	}
	for _, l := range samples() {
		before := copyOf(l)
		want(t, "Check", Check(l), api.OK)
		want(t, "a square afterwards", l, before)
	}
}

func TestCheckOfAllGrids(t *testing.T) { // P4.1
	const n = 3
	latin := 0
	for code := range 19683 { // 3^9
		g := squareWith(n, func(i, j int) int {
			x := code
			for range n*i + j {
				x /= n
			}
			return x % n
		})
		e := api.ErrLatin
		if isLatin(g) {
			e = api.OK
			latin++
		}
		want(t, "Check", Check(g), e)
	}
	want(t, "latin squares of the order 3", latin, 12)
}

func TestCyclic(t *testing.T) { // P4.1
	l, e := Cyclic(3)
	wantGrid(t, "Cyclic of 3", l, e, grid(3, 0, 1, 2, 1, 2, 0, 2, 0, 1), api.OK)
	for n := 1; n <= 16; n++ {
		l, e := Cyclic(n)
		wantGrid(t, "Cyclic", l, e, cyclic(n), api.OK)
	}
	for _, n := range badOrders() {
		l, e := Cyclic(n)
		wantGrid(t, "Cyclic of no order", l, e, api.Grid{}, api.ErrRange)
	}
}

// isPrimeToEach reports whether no number above 1 divides both.
func isPrimeToEach(a, n int) bool {
	for d := 2; d <= n; d++ {
		if a%d == 0 && n%d == 0 {
			return false
		}
	}
	return true
}

func TestLinear(t *testing.T) { // P4.1
	l, e := Linear(5, 2, 1)
	wantGrid(t, "2 i + j modulo 5", l, e, grid(5, 0, 1, 2, 3, 4, 2, 3, 4, 0, 1, 4, 0, 1, 2, 3, 1, 2, 3, 4, 0, 3, 4, 0, 1, 2), api.OK)
	const most = api.MaxNumber
	numbers := []int{most, -most, most - 1, 1 - most}
	for x := -18; x <= 18; x++ {
		numbers = append(numbers, x)
	}
	for n := 1; n <= 16; n++ {
		for _, a := range numbers {
			for _, b := range numbers {
				l, e := Linear(n, a, b)
				if !isPrimeToEach(a, n) || !isPrimeToEach(b, n) {
					wantGrid(t, "Linear", l, e, api.Grid{}, api.ErrSingular)
					continue
				}
				wantGrid(t, "Linear", l, e, squareWith(n, func(i, j int) int { return ((a*i+b*j)%n + n) % n }), api.OK)
				want(t, "Linear is latin", isLatin(l), true)
			}
		}
	}
	l, e = Linear(1, 0, 0)
	wantGrid(t, "the order 1", l, e, grid(1, 0), api.OK)
}

func TestErrorsOfLinear(t *testing.T) { // P4.1
	for _, n := range badOrders() {
		for _, a := range []int{1, 0, api.MaxNumber + 1} {
			l, e := Linear(n, a, 1)
			wantGrid(t, "no order", l, e, api.Grid{}, api.ErrRange)
		}
	}
	for _, x := range []int{api.MaxNumber + 1, -api.MaxNumber - 1, math.MinInt, math.MaxInt} {
		for _, other := range []int{1, 2, 0, x} { // 2 is not prime to 6
			l, e := Linear(6, x, other)
			wantGrid(t, "a is out of its range", l, e, api.Grid{}, api.ErrRange)
			l, e = Linear(6, other, x)
			wantGrid(t, "b is out of its range", l, e, api.Grid{}, api.ErrRange)
		}
	}
}

// polynomials returns the moduli of the fields that are no prime ones, with
// their coefficients from the constant one on.
func polynomials() map[int][]int {
	return map[int][]int{4: {1, 1, 1}, 8: {1, 1, 0, 1}, 16: {1, 1, 0, 0, 1}, 9: {1, 0, 1}}
}

// primeOf returns the prime number of which q is a power, or 0.
func primeOf(q int) int {
	for p := 2; p <= q; p++ {
		if q%p == 0 {
			for q%p == 0 {
				q /= p
			}
			if q == 1 {
				return p
			}
			return 0
		}
	}
	return 0
}

// digitsOf returns the digits of an element, the last one first.
func digitsOf(x, p, count int) []int {
	var digits []int
	for range count {
		digits = append(digits, x%p)
		x /= p
	}
	return digits
}

// product multiplies two elements as polynomials, and divides by the modulus.
func product(a, b, q int) int {
	p := primeOf(q)
	if p == q {
		return a * b % q
	}
	modulus := polynomials()[q]
	k := len(modulus) - 1
	terms := make([]int, 2*k)
	for i, x := range digitsOf(a, p, k) {
		for j, y := range digitsOf(b, p, k) {
			terms[i+j] += x * y
		}
	}
	for top := 2*k - 1; top >= k; top-- {
		factor := terms[top] % p
		for i, c := range modulus {
			terms[top-k+i] += (p - 1) * factor * c
		}
	}
	value := 0
	for i := k - 1; i >= 0; i-- {
		value = value*p + terms[i]%p
	}
	return value
}

// sum adds two elements digit by digit.
func sum(a, b, q int) int {
	p := primeOf(q)
	value, place := 0, 1
	for a > 0 || b > 0 {
		value += (a%p + b%p) % p * place
		a, b, place = a/p, b/p, place*p
	}
	return value
}

func TestField(t *testing.T) { // P4.1
	a, b, e := Field(4)
	wantGrid(t, "sums of 4", a, e, grid(4, 0, 1, 2, 3, 1, 0, 3, 2, 2, 3, 0, 1, 3, 2, 1, 0), api.OK)
	wantGrid(t, "products of 4", b, e, grid(4, 0, 0, 0, 0, 0, 1, 2, 3, 0, 2, 3, 1, 0, 3, 1, 2), api.OK)
	fields := 0
	for q := 1; q <= 16; q++ {
		a, b, e := Field(q)
		if primeOf(q) == 0 {
			wantGrid(t, "sums", a, e, api.Grid{}, api.ErrPrime)
			wantGrid(t, "products", b, e, api.Grid{}, api.ErrPrime)
			continue
		}
		fields++
		wantGrid(t, "sums", a, e, squareWith(q, func(i, j int) int { return sum(i, j, q) }), api.OK)
		wantGrid(t, "products", b, e, squareWith(q, func(i, j int) int { return product(i, j, q) }), api.OK)
		wantApart(t, "tables", []api.Grid{a, b})
	}
	want(t, "number of fields", fields, 10)
	for _, q := range badOrders() { // 17 and 25 are powers of primes
		a, b, e := Field(q)
		wantGrid(t, "sums", a, e, api.Grid{}, api.ErrRange)
		wantGrid(t, "products", b, e, api.Grid{}, api.ErrRange)
	}
}

func TestFieldsAreFields(t *testing.T) { // P4.1
	for q := 2; q <= 16; q++ {
		if primeOf(q) == 0 {
			continue
		}
		a, b, _ := Field(q)
		plus := func(x, y int) int { return a.Cells[q*x+y] }
		times := func(x, y int) int { return b.Cells[q*x+y] }
		want(t, "sums are a latin square", isLatin(a), true)
		for x := range q {
			want(t, "0 and 1", []int{plus(0, x), times(0, x), times(1, x)}, []int{x, 0, x})
			inverses := 0
			for y := range q {
				if times(x, y) == 1 {
					inverses++
				}
				want(t, "x and y", []int{plus(x, y), times(x, y)}, []int{plus(y, x), times(y, x)})
				for z := range q {
					left := []int{plus(plus(x, y), z), times(times(x, y), z), times(x, plus(y, z))}
					right := []int{plus(x, plus(y, z)), times(x, times(y, z)), plus(times(x, y), times(x, z))}
					want(t, "x, y and z", left, right)
				}
			}
			want(t, "inverses", inverses, min(x, 1))
		}
	}
}

func TestFamily(t *testing.T) { // P4.1
	f, e := Family(3)
	want(t, "error", e, api.OK)
	want(t, "the family of 3", f, []api.Grid{cyclic(3), grid(3, 0, 1, 2, 2, 0, 1, 1, 2, 0)})
	f, _ = Family(2)
	want(t, "the family of 2", f, []api.Grid{cyclic(2)})
	for q := 1; q <= 16; q++ {
		f, e := Family(q)
		if primeOf(q) == 0 {
			want(t, "no family", []any{len(f), e}, []any{0, api.ErrPrime})
			continue
		}
		want(t, "size of a family", []any{len(f), e}, []any{q - 1, api.OK})
		for k, l := range f {
			want(t, "a square of a family", l, squareWith(q, func(i, j int) int { return sum(product(k+1, i, q), j, q) }))
			want(t, "a square of a family is latin", isLatin(l), true)
		}
		wantApart(t, "squares of a family", f)
	}
	for _, q := range badOrders() {
		f, e := Family(q)
		want(t, "no family", []any{len(f), e}, []any{0, api.ErrRange})
	}
}

func TestFamiliesAreOrthogonal(t *testing.T) { // P4.2, P4.9
	random := rand.New(rand.NewSource(5))
	for q := 2; q <= 16; q++ {
		f, _ := Family(q)
		for k, a := range f {
			for m, b := range f {
				is, e := Orthogonal(a, b)
				want(t, "squares of a family", []any{is, e}, []any{k != m, api.OK})
			}
			if k > 0 {
				is, e := Orthogonal(shuffledSymbols(random, a), f[0])
				want(t, "with exchanged symbols", []any{is, e}, []any{true, api.OK})
			}
		}
	}
}

// shuffledSymbols returns a square with exchanged symbols.
func shuffledSymbols(random *rand.Rand, l api.Grid) api.Grid {
	symbols := random.Perm(l.Rows)
	return squareWith(l.Rows, func(i, j int) int { return symbols[l.Cells[l.Rows*i+j]] })
}
