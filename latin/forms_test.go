package latin

import (
	"math"
	"math/rand"
	"slices"
	"testing"

	"talisman/api"
)

// reducedForm permutes the columns by the first row, and then the rows by the
// first column, as the definition says it.
func reducedForm(l api.Grid) api.Grid {
	n := l.Rows
	columns := squareWith(n, func(i, j int) int {
		return l.Cells[n*i+slices.Index(l.Cells[:n], j)]
	})
	return squareWith(n, func(i, j int) int {
		for k := range n {
			if columns.Cells[n*k] == i {
				return columns.Cells[n*k+j]
			}
		}
		return -1
	})
}

func TestReduce(t *testing.T) { // P4.7
	g, e := Reduce(grid(2, 1, 0, 0, 1))
	wantGrid(t, "a reduced form", g, e, cyclic(2), api.OK)
	g, e = Reduce(grid(3, 2, 0, 1, 0, 1, 2, 1, 2, 0))
	wantGrid(t, "a reduced form", g, e, cyclic(3), api.OK)
	for _, l := range append(samples(), allSquares(4)...) {
		n := l.Rows
		before := copyOf(l)
		g, e := Reduce(l)
		wantGrid(t, "Reduce", g, e, reducedForm(l), api.OK)
		want(t, "the first row", g.Cells[:n], upTo(n))
		for i := range n {
			want(t, "the first column", g.Cells[n*i], i)
		}
		again, e := Reduce(g)
		wantGrid(t, "Reduce again", again, e, g, api.OK)
		wantApart(t, "reduced forms", []api.Grid{g, again}, l.Cells)
		want(t, "the square afterwards", l, before)
	}
	for what, row := range badSquares() {
		g, e := Reduce(row.g)
		wantGrid(t, what, g, e, api.Grid{}, row.e)
	}
}

func TestIsotope(t *testing.T) { // P4.7
	g, e := Isotope(cyclic(3), []int{1, 0, 2}, []int{0, 1, 2}, []int{0, 1, 2})
	wantGrid(t, "two rows exchanged", g, e, grid(3, 1, 2, 0, 0, 1, 2, 2, 0, 1), api.OK)
	g, e = Isotope(cyclic(3), []int{1, 2, 0}, []int{0, 1, 2}, []int{0, 1, 2})
	wantGrid(t, "rows moved down", g, e, grid(3, 2, 0, 1, 0, 1, 2, 1, 2, 0), api.OK)
	g, e = Isotope(cyclic(3), []int{0, 1, 2}, []int{1, 2, 0}, []int{0, 2, 1})
	wantGrid(t, "columns and symbols", g, e, grid(3, 1, 0, 2, 0, 2, 1, 2, 1, 0), api.OK)
	random := rand.New(rand.NewSource(17))
	for _, l := range samples() {
		n := l.Rows
		before := copyOf(l)
		for range 5 {
			rows, cols, symbols := random.Perm(n), random.Perm(n), random.Perm(n)
			lists := setsOf([][]int{rows, cols, symbols})
			g, e := Isotope(l, rows, cols, symbols)
			wanted := grid(n, make([]int, n*n)...)
			for i := range n {
				for j := range n {
					wanted.Cells[n*rows[i]+cols[j]] = symbols[l.Cells[n*i+j]]
				}
			}
			wantGrid(t, "Isotope", g, e, wanted, api.OK)
			wantApart(t, "Isotope", []api.Grid{g}, l.Cells, rows, cols, symbols)
			want(t, "the lists afterwards", [][]int{rows, cols, symbols}, lists)
		}
		want(t, "the square afterwards", l, before)
	}
}

func TestErrorsOfIsotope(t *testing.T) { // P4.7
	good := []int{0, 1, 2}
	for what, row := range badSquares() {
		for _, list := range [][]int{nil, {0, 1}, {0, 0}, {0}} {
			g, e := Isotope(row.g, list, []int{0, 1}, []int{0, 1})
			wantGrid(t, what, g, e, api.Grid{}, row.e)
		}
	}
	type badList struct {
		list []int
		e    api.Errno
	}
	bad := []badList{
		{nil, api.ErrShape}, {[]int{0, 1}, api.ErrShape}, {[]int{0, 1, 2, 3}, api.ErrShape}, {[]int{0, 0}, api.ErrShape},
		{slices.Repeat([]int{0}, 300), api.ErrShape},
		{[]int{0, 1, 1}, api.ErrPerm}, {[]int{0, 1, 3}, api.ErrPerm}, {[]int{-1, 0, 1}, api.ErrPerm}, {[]int{1, 2, 3}, api.ErrPerm},
		{[]int{math.MaxInt, 0, 1}, api.ErrPerm}, {[]int{0, math.MinInt, 1}, api.ErrPerm},
	}
	for _, first := range bad {
		g, e := Isotope(cyclic(3), first.list, good, good)
		wantGrid(t, "rows", g, e, api.Grid{}, first.e)
		g, e = Isotope(cyclic(3), good, first.list, good)
		wantGrid(t, "columns", g, e, api.Grid{}, first.e)
		g, e = Isotope(cyclic(3), good, good, first.list)
		wantGrid(t, "symbols", g, e, api.Grid{}, first.e)
		for _, second := range bad {
			g, e := Isotope(cyclic(3), first.list, second.list, good)
			wantGrid(t, "rows and columns", g, e, api.Grid{}, first.e)
			g, e = Isotope(cyclic(3), first.list, good, second.list)
			wantGrid(t, "rows and symbols", g, e, api.Grid{}, first.e)
			g, e = Isotope(cyclic(3), good, first.list, second.list)
			wantGrid(t, "columns and symbols", g, e, api.Grid{}, first.e)
		}
	}
}

func TestConjugate(t *testing.T) { // P4.7
	g, e := Conjugate(grid(3, 0, 1, 2, 2, 0, 1, 1, 2, 0), [3]int{1, 0, 2})
	wantGrid(t, "transposed", g, e, grid(3, 0, 2, 1, 1, 0, 2, 2, 1, 0), api.OK)
	g, e = Conjugate(grid(3, 0, 1, 2, 2, 0, 1, 1, 2, 0), [3]int{1, 2, 0})
	wantGrid(t, "columns, symbols, rows", g, e, grid(3, 0, 2, 1, 1, 0, 2, 2, 1, 0), api.OK)
	g, e = Conjugate(grid(4, 0, 1, 2, 3, 1, 3, 0, 2, 2, 0, 3, 1, 3, 2, 1, 0), [3]int{0, 2, 1})
	wantGrid(t, "rows, symbols, columns", g, e, grid(4, 0, 1, 2, 3, 2, 0, 3, 1, 1, 3, 0, 2, 3, 2, 1, 0), api.OK)
	for _, l := range samples() {
		n := l.Rows
		before := copyOf(l)
		for _, p := range permutations(3) {
			g, e := Conjugate(l, [3]int(p))
			wanted := grid(n, slices.Repeat([]int{-1}, n*n)...)
			for cell, x := range l.Cells {
				triple := []int{cell / n, cell % n, x}
				wanted.Cells[n*triple[p[0]]+triple[p[1]]] = triple[p[2]]
			}
			wantGrid(t, "Conjugate", g, e, wanted, api.OK)
			want(t, "a conjugate is latin", isLatin(g), true)
			wantApart(t, "a conjugate", []api.Grid{g}, l.Cells)
		}
		want(t, "the square afterwards", l, before)
	}
}

func TestErrorsOfConjugate(t *testing.T) { // P4.7
	bad := [][3]int{{0, 0, 2}, {0, 1, 1}, {2, 1, 2}, {0, 1, 3}, {-1, 0, 1}, {1, 2, 3}, {0, 0, 0}, {math.MaxInt, 0, 1}, {0, 1, math.MinInt}}
	for _, parts := range bad {
		g, e := Conjugate(cyclic(3), parts)
		wantGrid(t, "no permutation", g, e, api.Grid{}, api.ErrPerm)
	}
	for what, row := range badSquares() {
		g, e := Conjugate(row.g, [3]int{0, 1, 2})
		wantGrid(t, what, g, e, api.Grid{}, row.e)
		g, e = Conjugate(row.g, bad[0])
		wantGrid(t, what, g, e, api.Grid{}, row.e)
	}
}

func TestProduct(t *testing.T) { // P4.7
	g, e := Product(cyclic(2), cyclic(2))
	wantGrid(t, "a product", g, e, binary(4), api.OK)
	g, e = Product(grid(2, 1, 0, 0, 1), cyclic(3))
	wantGrid(t, "another one", g, e, grid(6, 3, 4, 5, 0, 1, 2, 4, 5, 3, 1, 2, 0, 5, 3, 4, 2, 0, 1,
		0, 1, 2, 3, 4, 5, 1, 2, 0, 4, 5, 3, 2, 0, 1, 5, 3, 4), api.OK)
	for _, a := range samples() {
		for _, b := range samples() {
			beforeA, beforeB := copyOf(a), copyOf(b)
			m, n := a.Rows, b.Rows
			g, e := Product(a, b)
			if m*n > 16 {
				wantGrid(t, "a product that is too large", g, e, api.Grid{}, api.ErrLimit)
				continue
			}
			wanted := grid(m*n, make([]int, m*m*n*n)...)
			for cell, x := range a.Cells {
				for inner, y := range b.Cells {
					row, column := cell/m*n+inner/n, cell%m*n+inner%n
					wanted.Cells[m*n*row+column] = n*x + y
				}
			}
			wantGrid(t, "Product", g, e, wanted, api.OK)
			want(t, "a product is latin", isLatin(g), true)
			wantApart(t, "a product", []api.Grid{g}, a.Cells, b.Cells)
			want(t, "the squares afterwards", []api.Grid{a, b}, []api.Grid{beforeA, beforeB})
		}
	}
}

func TestErrorsOfProduct(t *testing.T) { // P4.7
	for what, row := range badSquares() {
		g, e := Product(row.g, cyclic(16))
		wantGrid(t, "a: "+what, g, e, api.Grid{}, row.e)
		g, e = Product(cyclic(16), row.g)
		wantGrid(t, "b: "+what, g, e, api.Grid{}, row.e)
		for other, second := range badSquares() {
			g, e := Product(row.g, second.g)
			wantGrid(t, "a: "+what+", b: "+other, g, e, api.Grid{}, row.e)
		}
	}
	for _, pair := range [][2]int{{1, 16}, {16, 1}, {2, 8}, {8, 2}, {4, 4}, {3, 5}} {
		g, e := Product(cyclic(pair[0]), cyclic(pair[1]))
		want(t, "a product of a permitted order", []any{g.Rows, e}, []any{pair[0] * pair[1], api.OK})
	}
	for _, pair := range [][2]int{{2, 9}, {9, 2}, {4, 5}, {16, 16}, {3, 6}, {16, 2}} {
		g, e := Product(cyclic(pair[0]), cyclic(pair[1]))
		wantGrid(t, "a product that is too large", g, e, api.Grid{}, api.ErrLimit)
	}
}
