package lines

import (
	"math/big"
	"math/rand"
	"slices"
	"strconv"
	"testing"

	"talisman/api"
)

// someMagic returns an integer filling that is a sum of a basis with factors.
// The factors are multiples of all denominators.
func someMagic(random *rand.Rand, basis [][]api.Rat, cells int) []int {
	common := big.NewInt(1)
	for _, x := range slices.Concat(basis...) {
		den := exact(x).Denom()
		common.Mul(common, new(big.Int).Quo(den, new(big.Int).GCD(nil, nil, common, den)))
	}
	sums := make([]*big.Rat, cells)
	for i := range sums {
		sums[i] = new(big.Rat)
	}
	for _, filling := range basis {
		factor := new(big.Rat).SetInt(new(big.Int).Mul(common, big.NewInt(int64(random.Intn(9)-4))))
		for i, x := range filling {
			sums[i].Add(sums[i], new(big.Rat).Mul(factor, exact(x)))
		}
	}
	f := make([]int, cells)
	for i, sum := range sums {
		f[i] = int(sum.Num().Int64())
	}
	return f
}

// summed returns the sum of a basis with factors.
func summed(basis [][]api.Rat, factors list, cells int) []string {
	result := make([]string, cells)
	for i := range result {
		sum := new(big.Rat)
		for k, filling := range basis {
			sum.Add(sum, new(big.Rat).Mul(exact(factors[k]), exact(filling[i])))
		}
		result[i] = sum.RatString()
	}
	return result
}

func TestSumsOfTheBasis(t *testing.T) { // P2.7
	random := rand.New(rand.NewSource(3))
	for _, s := range someSystems(random) {
		basis, _ := Basis(s)
		f := someMagic(random, basis, s.Cells)
		is, e := IsMagic(s, f)
		want(t, "a sum of the basis is magic", []any{is, e}, []any{true, api.OK})
		factors, e := Coordinates(s, f)
		want(t, "error of Coordinates", []any{len(factors), e}, []any{len(basis), api.OK})
		var texts []string
		for _, x := range f {
			texts = append(texts, strconv.Itoa(x))
		}
		want(t, "the sum of the basis with the coordinates", summed(basis, factors, s.Cells), texts)
	}
}

func TestNumberOfCells(t *testing.T) { // P2.7
	for _, s := range someSystems(rand.New(rand.NewSource(4))) {
		basis, _ := Basis(s)
		dependent, _ := Dependent(s)
		cells := len(basis) + len(s.Lines) - len(dependent)
		if slices.ContainsFunc(basis, func(filling list) bool {
			return len(s.Lines) > 0 && sumsOfRationals(s, filling)[0] != "0"
		}) {
			cells--
		}
		want(t, "the number of cells", cells, s.Cells)
	}
}

func TestSumsSatisfyDependences(t *testing.T) { // P2.7
	random := rand.New(rand.NewSource(5))
	for _, s := range someSystems(random) {
		sums, _ := Sums(s, mapped(repeat(100, s.Cells), random.Intn))
		dependent, _ := Dependent(s)
		for _, d := range dependent {
			total := new(big.Rat)
			for line, factor := range d.Factors {
				total.Add(total, new(big.Rat).Mul(exact(factor), big.NewRat(int64(sums[line]), 1)))
			}
			want(t, "the sum of a dependent line", total.RatString(), strconv.Itoa(sums[d.Line]))
		}
	}
}

// eachNormal calls a function with all normal fillings of so many cells.
func eachNormal(cells int, use func(f []int)) {
	f := mapped(upTo(cells), func(x int) int { return x + 1 })
	var place func(i int)
	place = func(i int) {
		if i == cells {
			use(f)
		}
		for k := i; k < cells; k++ {
			f[i], f[k] = f[k], f[i]
			place(i + 1)
			f[i], f[k] = f[k], f[i]
		}
	}
	place(0)
}

func TestNormalMagicFillings(t *testing.T) { // P2.7
	random := rand.New(rand.NewSource(6))
	rows, _ := RowLines(2, 3)
	columns, _ := ColumnLines(2, 3)
	edge, _ := EdgeMagic(path())
	systems := []api.System{rows, columns, edge, system(5, []int{0, 1}, []int{2, 3}), system(4, []int{0, 1}, []int{2, 3})}
	for range 60 {
		systems = append(systems, someSystem(random, 6, 3))
	}
	found := 0
	for _, s := range systems {
		constant, e := Constant(s)
		oneLength := !slices.ContainsFunc(s.Lines, func(line []int) bool { return len(line) != len(s.Lines[0]) })
		eachNormal(s.Cells, func(f []int) {
			if magic, _ := IsMagic(s, f); !magic || len(s.Lines) == 0 {
				return
			}
			found++
			sums, _ := Sums(s, f)
			if e != api.ErrNone {
				want(t, "the sum of a normal magic filling", []any{sums[0], api.OK}, []any{constant, e})
			}
			if oneLength {
				complement, _ := Complement(f)
				magic, _ := IsMagic(s, complement)
				want(t, "the complement is magic", magic, true)
			}
		})
	}
	if found < 1000 {
		t.Errorf("%d normal magic fillings are too few for a test", found)
	}
}

func TestPandiagonalIsMagic(t *testing.T) { // P2.7
	random := rand.New(rand.NewSource(7))
	for n := 1; n <= 7; n++ {
		s, _ := SquareSystem("pandiagonal", n)
		basis, _ := Basis(s)
		for range 5 {
			names, e := Kinds(grid(n, someMagic(random, basis, n*n)))
			want(t, "error of Kinds", e, api.OK)
			for _, name := range []string{"semimagic", "magic", "pandiagonal"} {
				want(t, name, slices.Contains(names, name), true)
			}
		}
	}
}
