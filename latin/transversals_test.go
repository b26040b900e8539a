package latin

import (
	"math"
	"math/rand"
	"slices"
	"testing"

	"talisman/api"
)

// isDefinedTransversal reports what the definition of a transversal says.
func isDefinedTransversal(l api.Grid, t []int) bool {
	for i, j := range t {
		for k, m := range t[:i] {
			if j == m || l.Cells[l.Cols*i+j] == l.Cells[l.Cols*k+m] {
				return false
			}
		}
	}
	return true
}

func TestIsTransversal(t *testing.T) { // P4.3
	is, e := IsTransversal(cyclic(3), []int{0, 1, 2})
	want(t, "a transversal", []any{is, e}, []any{true, api.OK})
	is, e = IsTransversal(cyclic(3), []int{0, 2, 1})
	want(t, "equal symbols", []any{is, e}, []any{false, api.OK})
	is, e = IsTransversal(cyclic(3), []int{0, 0, 0})
	want(t, "equal columns", []any{is, e}, []any{false, api.OK})
	is, e = IsTransversal(cyclic(1), []int{0})
	want(t, "the order 1", []any{is, e}, []any{true, api.OK})
	random := rand.New(rand.NewSource(7))
	for _, l := range samples() {
		n := l.Rows
		before := copyOf(l)
		for range 50 {
			list := random.Perm(n)
			if random.Intn(3) == 0 {
				list[random.Intn(n)] = random.Intn(n)
			}
			listBefore := slices.Clone(list)
			is, e := IsTransversal(l, list)
			want(t, "IsTransversal", []any{is, e}, []any{isDefinedTransversal(l, list), api.OK})
			want(t, "the list afterwards", list, listBefore)
		}
		want(t, "the square afterwards", l, before)
	}
	for _, n := range []int{3, 5, 7, 9, 11, 13, 15} {
		list := make([]int, n) // i + i is a different symbol in each row
		for i := range n {
			list[i] = i
		}
		is, e := IsTransversal(cyclic(n), list)
		want(t, "a main diagonal", []any{is, e}, []any{true, api.OK})
		list[n-1], list[n-2] = list[n-2], list[n-1]
		is, e = IsTransversal(cyclic(n), list)
		want(t, "the last two exchanged", []any{is, e}, []any{false, api.OK})
	}
}

func TestErrorsOfIsTransversal(t *testing.T) { // P4.3
	for what, row := range badSquares() {
		for _, list := range [][]int{nil, {0, 1}, {0, 5}} {
			is, e := IsTransversal(row.g, list)
			want(t, what, []any{is, e}, []any{false, row.e})
		}
	}
	for _, list := range [][]int{nil, {0, 1}, {0, 1, 2, 3}, {0, -1}, {0, 1, 2, 0}, {3, 3, 3, 3}} {
		is, e := IsTransversal(cyclic(3), list)
		want(t, "a wrong length", []any{is, e}, []any{false, api.ErrShape})
	}
	for _, list := range [][]int{{0, 1, 3}, {-1, 0, 1}, {0, 0, -1}, {math.MaxInt, 0, 1}, {0, math.MinInt, 1}} {
		is, e := IsTransversal(cyclic(3), list)
		want(t, "a column that does not exist", []any{is, e}, []any{false, api.ErrRange})
	}
}

// definedTransversals tries all permutations.
func definedTransversals(l api.Grid) [][]int {
	var found [][]int
	for _, list := range permutations(l.Rows) {
		if isDefinedTransversal(l, list) {
			found = append(found, list)
		}
	}
	return found
}

func TestTransversals(t *testing.T) { // P4.3
	found, e := Transversals(cyclic(3))
	want(t, "error", e, api.OK)
	want(t, "transversals of Cyclic of 3", found, [][]int{{0, 1, 2}, {1, 2, 0}, {2, 0, 1}})
	for n, wanted := range []int{1: 1, 2: 0, 3: 3, 4: 0, 5: 15, 6: 0, 7: 133} {
		if n > 0 {
			found, e := Transversals(cyclic(n))
			want(t, "transversals of Cyclic", []any{len(found), e}, []any{wanted, api.OK})
		}
	}
	for _, l := range samples() {
		before := copyOf(l)
		found, e := Transversals(l)
		if l.Rows > 7 {
			want(t, "an order that is too large", []any{len(found), e}, []any{0, api.ErrLimit})
			continue
		}
		want(t, "error of Transversals", e, api.OK)
		wantList(t, "Transversals", found, definedTransversals(l))
		for _, list := range found {
			list[0] = -1
		}
		again, _ := Transversals(l)
		wantList(t, "Transversals again", again, definedTransversals(l))
		want(t, "the square afterwards", l, before)
	}
	for what, row := range badSquares() {
		found, e := Transversals(row.g)
		want(t, what, []any{len(found), e}, []any{0, row.e})
	}
}

func TestDeltas(t *testing.T) { // P4.4
	for n := 1; n <= 16; n++ {
		g, e := Deltas(cyclic(n))
		wantGrid(t, "deltas of Cyclic", g, e, squareWith(n, func(i, j int) int { return 0 }), api.OK)
	}
	g, e := Deltas(binary(4))
	wantGrid(t, "deltas of the field", g, e, grid(4, 0, 0, 0, 0, 0, 2, 0, 2, 0, 0, 0, 0, 0, 2, 0, 2), api.OK)
	for _, l := range samples() {
		n := l.Rows
		before := copyOf(l)
		g, e := Deltas(l)
		wantGrid(t, "Deltas", g, e, squareWith(n, func(i, j int) int { return (l.Cells[n*i+j] + 2*n - i - j) % n }), api.OK)
		wantApart(t, "deltas", []api.Grid{g}, l.Cells)
		want(t, "the square afterwards", l, before)
	}
	for what, row := range badSquares() {
		g, e := Deltas(row.g)
		wantGrid(t, what, g, e, api.Grid{}, row.e)
	}
}

// refutes reports what the definition says of a number.
func refutes(l api.Grid, d int) bool {
	n := l.Rows
	if d < 2 || n%d != 0 || n*(n-1)/2%d == 0 {
		return false
	}
	for cell, x := range l.Cells {
		if (x-cell/n-cell%n)%d != 0 {
			return false
		}
	}
	return true
}

// steps returns squares whose deltas are multiples of d: blocks of an addition
// table modulo n / d, in each of which the symbols of another table may stand.
func steps(n, d int) api.Grid {
	return squareWith(n, func(i, j int) int {
		return ((i%d+j%d)%d + d*((i/d+j/d)%(n/d))) % n
	})
}

func TestRefute(t *testing.T) { // P4.4
	for _, row := range []struct {
		l api.Grid
		d int
		e api.Errno
	}{
		{cyclic(1), 0, api.ErrNone}, {cyclic(2), 2, api.OK}, {cyclic(3), 0, api.ErrNone}, {cyclic(4), 4, api.OK},
		{cyclic(5), 0, api.ErrNone}, {cyclic(6), 2, api.OK}, {cyclic(8), 8, api.OK}, {cyclic(12), 4, api.OK},
		{cyclic(10), 2, api.OK}, {cyclic(15), 0, api.ErrNone}, {cyclic(16), 16, api.OK}, {cyclic(9), 0, api.ErrNone},
		{binary(4), 0, api.ErrNone}, {binary(2), 2, api.OK}, {grid(2, 1, 0, 0, 1), 0, api.ErrNone},
		{steps(6, 2), 2, api.OK}, {steps(6, 3), 0, api.ErrNone},
	} {
		d, e := Refute(row.l)
		want(t, "Refute", []any{d, e}, []any{row.d, row.e})
	}
	squares := samples()
	for n := 2; n <= 16; n++ {
		for d := 2; d <= n; d++ {
			if n%d == 0 {
				squares = append(squares, steps(n, d))
			}
		}
	}
	for _, l := range squares {
		before := copyOf(l)
		least, wanted := 0, api.ErrNone
		for d := 40; d >= -20; d-- {
			proof := api.ErrProof
			if refutes(l, d) {
				least, wanted, proof = d, api.OK, api.OK
			}
			want(t, "CheckRefute", CheckRefute(l, d), proof)
		}
		d, e := Refute(l)
		want(t, "Refute", []any{d, e}, []any{least, wanted})
		want(t, "the square afterwards", l, before)
	}
}

func TestErrorsOfRefute(t *testing.T) { // P4.4
	want(t, "2 does not refute Cyclic of 4", CheckRefute(cyclic(4), 2), api.ErrProof)
	want(t, "4 refutes it", CheckRefute(cyclic(4), 4), api.OK)
	want(t, "3 is no divisor", CheckRefute(cyclic(2), 3), api.ErrProof)
	want(t, "4 does not refute the field", CheckRefute(binary(4), 4), api.ErrProof)
	for _, d := range []int{0, 1, -1, -2, -4, 8, math.MaxInt, math.MinInt, math.MinInt + 1} {
		want(t, "CheckRefute of no divisor", CheckRefute(cyclic(4), d), api.ErrProof)
	}
	for what, row := range badSquares() {
		d, e := Refute(row.g)
		want(t, what, []any{d, e}, []any{0, row.e})
		for _, d := range []int{-1, 0, 2} {
			want(t, what, CheckRefute(row.g, d), row.e)
		}
	}
}

func TestRefutedSquares(t *testing.T) { // P4.4, P4.9
	random := rand.New(rand.NewSource(8))
	refuted := 0
	squares := append(samples(), allSquares(4)...)
	for n := 2; n <= 6; n += 2 {
		squares = append(squares, steps(n, n), steps(n, 2))
		for range 20 {
			// Deltas remain multiples of 2 where rows are moved by 2.
			l, shift := steps(n, 2), 2*random.Intn(n)
			squares = append(squares, squareWith(n, func(i, j int) int { return (l.Cells[n*((i+shift)%n)+j]) }))
		}
	}
	for _, l := range squares {
		if _, e := Refute(l); e != api.OK || l.Rows > 7 {
			continue
		}
		refuted++
		found, e := Transversals(l)
		want(t, "transversals of a refuted square", []any{len(found), e}, []any{0, api.OK})
		if l.Rows <= 5 {
			g, e := Mate(l)
			wantGrid(t, "a mate of a refuted square", g, e, api.Grid{}, api.ErrNone)
		}
	}
	want(t, "some squares are refuted", refuted > 20, true)
}
