package algebra

import (
	"math/big"
	"math/rand"
	"slices"
	"testing"

	"talisman/api"
)

func TestDeterminantExamples(t *testing.T) { // P1.3
	for _, row := range []struct {
		m rows
		d api.Rat
		e api.Errno
	}{
		{nil, "1", api.OK}, {rows{{"-3/2"}}, "-3/2", api.OK}, {rows{{"0"}}, "0", api.OK}, {rows{{"1", "2"}, {"3", "4"}}, "-2", api.OK}, {rows{{"0", "1"}, {"1", "0"}}, "-1", api.OK},
		{rows{{"1", "2"}, {"2", "4"}}, "0", api.OK}, {rows{{"2", "7", "6"}, {"9", "5", "1"}, {"4", "3", "8"}}, "-360", api.OK}, {oneAt(256), "1", api.OK},
		{rows{{"1", "2"}}, "", api.ErrShape}, {rows{{}}, "", api.ErrShape}, {rows{{"1"}, {"2"}}, "", api.ErrShape}, {rows{{"1", "x"}}, "", api.ErrForm},
		{rows{{tenTo(599), "0"}, {"0", "10"}}, "", api.ErrLarge}, {rows{{tenTo(599), "0"}, {"0", "9"}}, "9" + digits("0", 599), api.OK},
		{rows{{"1/" + tenTo(599), "0"}, {"0", "1/10"}}, "", api.ErrLarge}, {rows{{tenTo(599), "0", "0"}, {"0", tenTo(599), "0"}, {"0", "0", "0"}}, "0", api.OK},
		{rows{{tenTo(400), "0", "0"}, {"0", tenTo(400), "0"}, {"0", "0", "1/" + tenTo(500)}}, tenTo(300), api.OK},
	} {
		d, e := Determinant(row.m)
		want(t, "Determinant", [2]any{d, e}, [2]any{row.d, row.e})
	}
}

// byLeibniz returns the determinant as the sum over all permutations.
func byLeibniz(m rows) api.Rat {
	sum := new(big.Rat)
	for _, p := range permutations(len(m)) {
		product := big.NewRat(int64(signByPairs(p)), 1)
		for i, column := range p {
			product.Mul(product, exact(m[i][column]))
		}
		sum.Add(sum, product)
	}
	return textOf(sum)
}

func TestDeterminantByPermutations(t *testing.T) { // P1.3
	random := rand.New(rand.NewSource(7))
	for range 300 {
		n := random.Intn(6)
		m := someMatrix(random, n, n)
		d, e := Determinant(m)
		want(t, "Determinant", [2]any{d, e}, [2]any{byLeibniz(m), api.OK})
	}
}

func TestMatrixResultsTooLarge(t *testing.T) { // P1.3
	m := rows{{"1/" + tenTo(599), "10"}}
	r, e := Echelon(m)
	want(t, "Echelon", [2]any{len(r), e}, [2]any{0, api.ErrLarge})
	n, e := MatrixRank(m)
	want(t, "MatrixRank", [2]any{n, e}, [2]any{1, api.OK})
	k, e := Kernel(m)
	want(t, "Kernel", [2]any{len(k), e}, [2]any{0, api.ErrLarge})
	// Its first elimination has numbers of 1200 digits, its result has not.
	big := digits("9", 600)
	r, e = Echelon(rows{{big, tenTo(599)}, {tenTo(599), big}})
	want(t, "Echelon of large numbers", [2]any{r, e}, [2]any{oneAt(2), api.OK})
}

func TestMatrixArgumentsStay(t *testing.T) { // P1.3, P1.4
	m, b := rows{{"0", "2", "3"}, {"2", "4", "7"}, {"4", "8", "14"}}, list{"4", "9", "18"}
	integers := [][]int{{0, -2, 3}, {2, 4, 7}}
	before, side := slices.Concat(m...), slices.Clone(b)
	echelon, _ := Echelon(m)
	Kernel(m)
	MatrixRank(m)
	Solve(m, b)
	Refute(m, b)
	CheckRefute(m, b, b)
	Determinant(m)
	RankModulo(integers, 3)
	KernelModulo(integers, 3)
	echelon[0][0] = "x"
	want(t, "the matrix", slices.Concat(m...), before)
	want(t, "the side", b, side)
	want(t, "the integers", integers, [][]int{{0, -2, 3}, {2, 4, 7}})
}
