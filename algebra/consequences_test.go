package algebra

import (
	"math/big"
	"math/rand"
	"testing"

	"talisman/api"
)

func TestSignOfCompositions(t *testing.T) { // P1.5
	for _, p := range permutations(4) {
		for _, q := range permutations(4) {
			both, _ := Compose(p, q)
			a, _ := Sign(p)
			b, _ := Sign(q)
			c, _ := Sign(both)
			want(t, "sign of a composition", c, a*b)
		}
	}
}

func TestRankOfTheInverseOrder(t *testing.T) { // P1.5
	random := rand.New(rand.NewSource(9))
	for range 50 {
		n := random.Intn(257)
		p := random.Perm(n)
		opposite := make([]int, n)
		for i, x := range p {
			opposite[i] = n - 1 - x
		}
		a, _ := Rank(p)
		b, _ := Rank(opposite)
		sum, _ := Add(a, b)
		last := new(big.Int).Sub(factorial(int64(n)), big.NewInt(1))
		want(t, "sum of the ranks", string(sum), last.String())
	}
}

// multiplied returns the product of two matrices.
func multiplied(a, b rows) rows {
	product := make(rows, len(a))
	for i, row := range a {
		for column := range width(b) {
			var other list
			for _, line := range b {
				other = append(other, line[column])
			}
			product[i] = append(product[i], dot(row, other))
		}
	}
	return product
}

func TestDeterminantOfProducts(t *testing.T) { // P1.5
	random := rand.New(rand.NewSource(10))
	for range 200 {
		n := random.Intn(5) + 1
		a, b := someMatrix(random, n, n), someMatrix(random, n, n)
		left, _ := Determinant(a)
		right, _ := Determinant(b)
		wanted, _ := Mul(left, right)
		d, e := Determinant(multiplied(a, b))
		want(t, "determinant of a product", [2]any{d, e}, [2]any{wanted, api.OK})
	}
}

func TestRanks(t *testing.T) { // P1.5
	random := rand.New(rand.NewSource(11))
	for range 500 {
		n := random.Intn(5) + 1
		m := someIntegers(random, n, n, 6)
		rank, _ := MatrixRank(asRats(m))
		kernel, _ := Kernel(asRats(m))
		want(t, "rank and number of elements of the basis", rank+len(kernel), n)
		d, _ := Determinant(asRats(m))
		for _, p := range []int{2, 3, 5, 7, 999999937} {
			modulo, _ := RankModulo(m, p)
			if modulo > rank {
				t.Errorf("%v: rank %d, modulo %d it is %d", m, rank, p, modulo)
			}
			num, _ := new(big.Int).SetString(string(d), 10)
			isZero := new(big.Int).Mod(num, big.NewInt(int64(p))).Sign() == 0
			want(t, "determinant 0 modulo a prime", isZero, modulo < n)
		}
	}
}

// TestLargeMatrices has matrices of more than a few rows, with numbers of many digits on the way.
func TestLargeMatrices(t *testing.T) { // P1.3, P1.5
	random := rand.New(rand.NewSource(12))
	m := someIntegers(random, 24, 30, 99)
	kernel, e := Kernel(asRats(m))
	if e != api.OK || len(kernel) != 6 || !isReduced(kernel) {
		t.Fatalf("Kernel: %d lists, %d", len(kernel), e)
	}
	for _, row := range asRats(m) {
		for _, list := range kernel {
			want(t, "product of a row and the null space", dot(row, list), api.Rat("0"))
		}
	}
}
