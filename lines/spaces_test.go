package lines

import (
	"math/big"
	"math/rand"
	"slices"
	"testing"

	"talisman/api"
)

// list is a rational filling or a list of factors as a test writes it.
type list = []api.Rat

// rank returns the rank of rows of integers, by fractions of math/big.
func rank(rows [][]int) int {
	var echelon [][]*big.Rat
	for _, row := range rows {
		rest := make([]*big.Rat, len(row))
		for i, x := range row {
			rest[i] = big.NewRat(int64(x), 1)
		}
		for _, other := range echelon {
			k := slices.IndexFunc(other, func(x *big.Rat) bool { return x.Sign() != 0 })
			factor := new(big.Rat).Quo(rest[k], other[k])
			for i := range rest {
				rest[i] = new(big.Rat).Sub(rest[i], new(big.Rat).Mul(factor, other[i]))
			}
		}
		if slices.ContainsFunc(rest, func(x *big.Rat) bool { return x.Sign() != 0 }) {
			echelon = append(echelon, rest)
		}
	}
	return len(echelon)
}

// lineRow returns the line with 1 in its cells and 0 elsewhere.
func lineRow(s api.System, line int) []int {
	row := make([]int, s.Cells)
	for _, cell := range s.Lines[line] {
		row[cell] = 1
	}
	return row
}

// differenceRows returns what the lines have more than the line 0.
func differenceRows(s api.System) [][]int {
	var rows [][]int
	for k := range s.Lines {
		row := lineRow(s, k)
		for i, x := range lineRow(s, 0) {
			row[i] -= x
		}
		rows = append(rows, row)
	}
	return rows
}

func TestBasisExamples(t *testing.T) { // P2.3
	magic, _ := SquareSystem("magic", 3)
	for _, row := range []struct {
		what  string
		s     api.System
		basis [][]api.Rat
	}{
		{"the example", magic, [][]api.Rat{
			{"1", "0", "0", "-2/3", "1/3", "4/3", "2/3", "2/3", "-1/3"},
			{"0", "1", "0", "1/3", "1/3", "1/3", "2/3", "-1/3", "2/3"},
			{"0", "0", "1", "4/3", "1/3", "-2/3", "-1/3", "2/3", "2/3"}}},
		{"no lines", system(2), [][]api.Rat{{"1", "0"}, {"0", "1"}}},
		{"one line", system(3, []int{0, 1}), [][]api.Rat{{"1", "0", "0"}, {"0", "1", "0"}, {"0", "0", "1"}}},
		{"a line within another", system(2, []int{0}, []int{0, 1}), [][]api.Rat{{"1", "0"}}},
		{"a cell in no line", system(3, []int{0}, []int{2}), [][]api.Rat{{"1", "0", "1"}, {"0", "1", "0"}}},
		{"a triangle", system(3, []int{0, 1}, []int{1, 2}, []int{0, 2}), [][]api.Rat{{"1", "1", "1"}}},
		{"no filling but 0", system(2, []int{0}, []int{1}, []int{0, 1}), nil},
	} {
		basis, e := Basis(row.s)
		want(t, "error of Basis of "+row.what, e, api.OK)
		wantList(t, "Basis of "+row.what, basis, row.basis)
	}
}

// isReduced reports whether fillings are a reduced basis.
func isReduced(basis [][]api.Rat) bool {
	last := -1
	for i, filling := range basis {
		place := slices.IndexFunc(filling, func(x api.Rat) bool { return x != "0" })
		if place <= last || filling[place] != "1" {
			return false
		}
		for k, other := range basis {
			if k != i && other[place] != "0" {
				return false
			}
		}
		last = place
	}
	return true
}

func TestBasis(t *testing.T) { // P2.3
	for _, s := range someSystems(rand.New(rand.NewSource(1))) {
		basis, e := Basis(s)
		if e != api.OK || !isReduced(basis) {
			t.Fatalf("Basis of %v: %v, %d", s, basis, e)
		}
		want(t, "size of the basis", len(basis), s.Cells-rank(differenceRows(s)))
		for _, filling := range basis {
			want(t, "numbers of a filling of the basis", len(filling), s.Cells)
			sums := sumsOfRationals(s, filling)
			if len(slices.Compact(sums)) > 1 {
				t.Fatalf("Basis of %v: %v is not magic", s, filling)
			}
		}
	}
}

func TestCoordinates(t *testing.T) { // P2.3
	magic, _ := SquareSystem("magic", 3)
	for _, row := range []struct {
		what string
		s    api.System
		f    []int
		c    list
		e    api.Errno
	}{
		{"the example", magic, loShu(), list{"2", "7", "6"}, api.OK},
		{"zeros", magic, repeat(0, 9), list{"0", "0", "0"}, api.OK},
		{"a square that is not magic", magic, changed(loShu(), 8, 9), nil, api.ErrSum},
		{"no lines", system(2), []int{-7, 999999999}, list{"-7", "999999999"}, api.OK},
		{"a cell in no line", system(3, []int{0}, []int{2}), []int{4, 9, 4}, list{"4", "9"}, api.OK},
		{"no filling but 0", system(2, []int{0}, []int{1}, []int{0, 1}), []int{0, 0}, nil, api.OK},
		{"another one than 0", system(2, []int{0}, []int{1}, []int{0, 1}), []int{1, 1}, nil, api.ErrSum},
		{"free cells behind others", system(4, []int{0, 1}, []int{0, 1, 2}, []int{0}), []int{5, 0, 0, 8}, list{"5", "8"}, api.OK},
	} {
		c, e := Coordinates(row.s, row.f)
		want(t, "error of Coordinates of "+row.what, e, row.e)
		wantList(t, "Coordinates of "+row.what, c, row.c)
	}
}

func TestErrorsOfSpaces(t *testing.T) { // P2.3, P2.4
	for what, row := range badSystems() {
		basis, e := Basis(row.s)
		want(t, "Basis of "+what, []any{len(basis), e}, []any{0, row.e})
		dependent, e := Dependent(row.s)
		want(t, "Dependent of "+what, []any{len(dependent), e}, []any{0, row.e})
		constant, e := Constant(row.s)
		want(t, "Constant of "+what, []any{constant, e}, []any{0, row.e})
	}
}

func TestDependentExamples(t *testing.T) { // P2.4
	semimagic, _ := SquareSystem("semimagic", 3)
	magic, _ := SquareSystem("magic", 3)
	for _, row := range []struct {
		what string
		s    api.System
		d    []Dependence
	}{
		{"semimagic", semimagic, []Dependence{{5, list{"1", "1", "1", "-1", "-1"}}}},
		{"magic", magic, []Dependence{{5, list{"1", "1", "1", "-1", "-1"}}}},
		{"no lines", system(3), nil},
		{"one line", system(3, []int{1}), nil},
		{"parts and wholes", system(3, []int{0, 1}, []int{0}, []int{1}, []int{1, 2}, []int{2}, []int{0, 1, 2}),
			[]Dependence{{2, list{"1", "-1"}}, {4, list{"-1", "1", "0", "1"}}, {5, list{"0", "1", "0", "1", "0"}}}},
		{"halves", system(3, []int{0, 1}, []int{1, 2}, []int{0, 2}, []int{0, 1, 2}, []int{1}),
			[]Dependence{{3, list{"1/2", "1/2", "1/2"}}, {4, list{"1/2", "1/2", "-1/2", "0"}}}},
	} {
		d, e := Dependent(row.s)
		want(t, "error of Dependent of "+row.what, e, api.OK)
		wantList(t, "Dependent of "+row.what, d, row.d)
	}
}

// combined returns the sum of rows with factors.
func combined(rows [][]int, factors list) []string {
	var result []string
	for i := range rows[0] {
		sum := new(big.Rat)
		for k, factor := range factors {
			sum.Add(sum, new(big.Rat).Mul(exact(factor), big.NewRat(int64(rows[k][i]), 1)))
		}
		result = append(result, sum.RatString())
	}
	return result
}

func TestDependent(t *testing.T) { // P2.4
	for _, s := range someSystems(rand.New(rand.NewSource(2))) {
		dependent, e := Dependent(s)
		want(t, "error of Dependent", e, api.OK)
		var rows [][]int
		var found, wanted []int
		for k := range s.Lines {
			rows = append(rows, lineRow(s, k))
			if rank(rows) == rank(rows[:k]) {
				wanted = append(wanted, k)
			}
		}
		for _, d := range dependent {
			want(t, "number of factors", len(d.Factors), d.Line)
			want(t, "the sum of a dependent line", combined(rows, d.Factors), combined(rows[d.Line:], list{"1"}))
			for _, other := range found {
				want(t, "the factor of a dependent line", d.Factors[other], api.Rat("0"))
			}
			found = append(found, d.Line)
		}
		wantList(t, "the dependent lines", found, wanted)
	}
}

func TestConstantOfNames(t *testing.T) { // P2.4
	constant := func(s api.System, wanted int) {
		t.Helper()
		n, e := Constant(s)
		want(t, "Constant", []any{n, e}, []any{wanted, api.OK})
	}
	for n := 1; n <= 16; n++ {
		for _, kind := range []string{"semimagic", "magic", "pandiagonal"} {
			s, _ := SquareSystem(kind, n)
			constant(s, n*(n*n+1)/2)
		}
	}
	for n := 5; n <= 16; n++ {
		s, _ := Star(n)
		constant(s, 2*(2*n+1))
	}
	for n := 1; n <= 6; n++ {
		s, _ := Cube(n)
		constant(s, n*(n*n*n+1)/2)
	}
}

func TestConstant(t *testing.T) { // P2.4
	vertex, _ := VertexMagic(path())
	for _, row := range []struct {
		what string
		s    api.System
		n    int
		e    api.Errno
	}{
		{"cells in no line", system(5, []int{0, 1}, []int{2, 3}), 0, api.ErrNone},
		{"no lines", system(2), 0, api.ErrNone},
		{"one cell without lines", system(1), 0, api.ErrNone},
		{"one line of all cells", system(3, []int{0, 1, 2}), 6, api.OK},
		{"one line of some cells", system(3, []int{0, 1}), 0, api.ErrNone},
		{"two cells", system(2, []int{0}, []int{1}), 0, api.ErrInfeasible},
		{"two lines", system(4, []int{0, 1}, []int{2, 3}), 5, api.OK},
		{"a line within another", system(2, []int{0}, []int{0, 1}), 3, api.OK},
		{"a triangle: k is 3/2", system(3, []int{0, 1}, []int{1, 2}, []int{0, 2}), 4, api.OK},
		{"no constant but 0, and no filling but 0", system(2, []int{0}, []int{1}, []int{0, 1}), 0, api.ErrNone},
		{"no constant but 0", system(4, []int{0, 1}, []int{2, 3}, []int{0, 1, 2, 3}), 0, api.ErrNone},
		{"no constant but 0, and a sum other than 0", system(3, []int{0}, []int{1}, []int{0, 1}), 0, api.ErrNone},
		{"k is 1, by 1, 1 and -1", system(3, []int{0}, []int{1}, []int{0, 1, 2}), 6, api.OK},
		{"k is 0", system(4, []int{0}, []int{1}, []int{0, 1, 2}, []int{0, 1, 3}), 0, api.ErrNone},
		{"k is -1", system(5, []int{0}, []int{1}, []int{0, 1, 2}, []int{0, 1, 3}, []int{0, 1, 4}), -15, api.OK},
		{"a sum that is not a multiple of the constant", vertex, 0, api.ErrNone},
	} {
		n, e := Constant(row.s)
		want(t, "Constant of "+row.what, []any{n, e}, []any{row.n, row.e})
	}
}

// fibonacci returns a system in which k is 1 or -1, divided by the Fibonacci
// number with the number n - 1. With the constant 1 the cells 0 and 1 have 1, and 2 has -1.
// The cells p, from 3 to n + 2, are multiples of the first one of them: each
// further one is the opposite of the sum of the one before it, the third one
// before it, and so on. The last one of them is 1. The cell n + 3 makes the
// line of all cells but 2 and 3 have the sum 1.
func fibonacci(n int) api.System {
	s := system(n+4, []int{0}, []int{1}, []int{0, 1, 2})
	for p := 4; p < n+3; p++ {
		line := []int{0, p}
		for other := p - 1; other >= 3; other -= 2 {
			line = append(line, other)
		}
		slices.Sort(line)
		s.Lines = append(s.Lines, line)
	}
	last := []int{0, 1}
	for cell := 4; cell < n+4; cell++ {
		last = append(last, cell)
	}
	s.Lines = append(s.Lines, []int{n + 2}, last)
	return s
}

func TestLargeConstants(t *testing.T) { // P2.4
	n, e := Constant(fibonacci(10))
	want(t, "Constant of a chain of 10", []any{n, e}, []any{-34 * 14 * 15 / 2, api.OK})
	n, e = Constant(fibonacci(75))
	want(t, "Constant of a chain of 75", []any{n, e}, []any{1304969544928657 * 79 * 80 / 2, api.OK})
	n, e = Constant(fibonacci(100))
	want(t, "Constant of a chain of 100", []any{n, e}, []any{0, api.ErrLarge})
}

func TestLargeSystems(t *testing.T) { // P2.3, P2.4
	pandiagonal, _ := SquareSystem("pandiagonal", 16)
	cube, _ := Cube(6)
	for _, row := range []struct {
		s                api.System
		basis, dependent int
	}{{pandiagonal, 197, 4}, {cube, 122, 17}} {
		basis, e := Basis(row.s)
		want(t, "Basis", []any{len(basis), isReduced(basis), e}, []any{row.basis, true, api.OK})
		dependent, e := Dependent(row.s)
		want(t, "Dependent", []any{len(dependent), e}, []any{row.dependent, api.OK})
		want(t, "cells", row.s.Cells, row.basis-1+len(row.s.Lines)-row.dependent)
	}
}

func TestSpacesShareNoMemory(t *testing.T) { // P2.3, P2.4
	s, _ := SquareSystem("semimagic", 4)
	again, _ := SquareSystem("semimagic", 4)
	basis, _ := Basis(s)
	for _, filling := range basis {
		_ = append(filling, "x")
		clear(filling)
	}
	dependent, _ := Dependent(s)
	for _, d := range dependent {
		clear(d.Factors)
	}
	fresh, _ := Basis(s)
	want(t, "Basis after its result was changed", isReduced(fresh), true)
	want(t, "the system afterwards", s, again)
}
