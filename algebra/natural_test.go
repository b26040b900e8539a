package algebra

import (
	"math"
	"math/big"
	"math/rand"
	"testing"
)

// someNatural prefers words at the ends of their range, where carries are.
func someNatural(random *rand.Rand, words int) natural {
	n := make(natural, random.Intn(words+1))
	for i := range n {
		switch random.Intn(4) {
		case 0:
			n[i] = 0
		case 1:
			n[i] = math.MaxUint64
		case 2:
			n[i] = 1 << random.Intn(64)
		default:
			n[i] = random.Uint64()
		}
	}
	return n.trimmed()
}

func (a natural) big() *big.Int {
	n := new(big.Int)
	for i := len(a) - 1; i >= 0; i-- {
		n.Lsh(n, 64)
		n.Or(n, new(big.Int).SetUint64(a[i]))
	}
	return n
}

func TestNaturalsAgreeWithBig(t *testing.T) {
	random := rand.New(rand.NewSource(1))
	check := func(what string, a, b, got natural, wanted *big.Int) {
		t.Helper()
		if got.big().Cmp(wanted) != 0 || len(got) > 0 && got[len(got)-1] == 0 {
			t.Fatalf("%s of %v and %v: got %v, want %v", what, a, b, got, wanted)
		}
	}
	for range 20000 {
		a, b := someNatural(random, 6), someNatural(random, 6)
		x, y := a.big(), b.big()
		want(t, "compare", a.compare(b), x.Cmp(y))
		check("sum", a, b, a.plus(b), new(big.Int).Add(x, y))
		check("difference", a, b, a.plus(b).minus(a), y)
		check("product", a, b, a.times(b), new(big.Int).Mul(x, y))
		check("gcd", a, b, a.gcd(b), new(big.Int).GCD(nil, nil, x, y))
		check("text", a, nil, parse(a.text()), x)
		want(t, "text", a.text(), x.String())
		if len(b) > 0 {
			q, r := a.dividedBy(b)
			wantedQ, wantedR := new(big.Int).QuoRem(x, y, new(big.Int))
			check("quotient", a, b, q, wantedQ)
			check("remainder", a, b, r, wantedR)
		}
	}
}

func TestGcdOfLongNumbers(t *testing.T) {
	random := rand.New(rand.NewSource(2))
	for range 300 {
		common := someNatural(random, 20)
		a, b := someNatural(random, 40).times(common), someNatural(random, 30).times(common)
		got := a.gcd(b).big()
		if got.Cmp(new(big.Int).GCD(nil, nil, a.big(), b.big())) != 0 {
			t.Fatalf("gcd of %v and %v: got %v", a, b, got)
		}
	}
	// Fibonacci numbers take the most steps of all.
	a, b := natural{1}, natural{1}
	for range 2000 {
		a, b = a.plus(b), a
	}
	want(t, "gcd of Fibonacci numbers", a.gcd(b), natural{1})
}

// A guess of the quotient that is too large must be corrected: dividends just
// below multiples of the divisor bring it about.
func TestDivisionCorrectsItsGuess(t *testing.T) {
	random := rand.New(rand.NewSource(3))
	for range 20000 {
		b := someNatural(random, 4).plus(natural{1})
		q := someNatural(random, 3).plus(natural{1})
		a := b.times(q).minus(natural{1})
		quotient, rest := a.dividedBy(b)
		want(t, "quotient", quotient.compare(q.minus(natural{1})), 0)
		want(t, "remainder", rest.compare(b.minus(natural{1})), 0)
	}
}
