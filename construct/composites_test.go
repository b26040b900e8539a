package construct

import (
	"math"
	"slices"
	"testing"

	"talisman/api"
)

func TestProduct(t *testing.T) { // P3.6
	small := grid(2, 1, 2, 3, 4)
	for _, row := range []struct{ a, b, ab api.Grid }{
		{grid(1, 1), small, small}, {small, grid(1, 1), small}, {grid(1, 1), grid(1, 1), grid(1, 1)},
		{small, grid(2, 4, 3, 2, 1), grid(4, 4, 3, 8, 7, 2, 1, 6, 5, 12, 11, 16, 15, 10, 9, 14, 13)},
		{small, loShu(), grid(6, 2, 7, 6, 11, 16, 15, 9, 5, 1, 18, 14, 10, 4, 3, 8, 13, 12, 17,
			20, 25, 24, 29, 34, 33, 27, 23, 19, 36, 32, 28, 22, 21, 26, 31, 30, 35)},
		{loShu(), small, grid(6, 5, 6, 25, 26, 21, 22, 7, 8, 27, 28, 23, 24, 33, 34, 17, 18, 1, 2, 35, 36, 19, 20, 3, 4,
			13, 14, 9, 10, 29, 30, 15, 16, 11, 12, 31, 32)},
	} {
		beforeA, beforeB := slices.Clone(row.a.Cells), slices.Clone(row.b.Cells)
		g, e := Product(row.a, row.b)
		wantGrid(t, "Product", g, e, row.ab, api.OK)
		g.Cells[0] = -1
		want(t, "the squares afterwards", [][]int{row.a.Cells, row.b.Cells}, [][]int{beforeA, beforeB})
	}
}

func TestProductsOfAllOrders(t *testing.T) { // P3.6, P3.8
	for m := 1; m <= 16; m++ {
		for n := 1; n <= 16; n++ {
			a, b := grid(m, upTo(m*m)...), grid(n, upTo(n*n)...)
			if m != 2 {
				a, _ = Magic(m)
			}
			if n != 2 {
				b, _ = Magic(n)
			}
			g, e := Product(a, b)
			if m*n > 16 {
				wantGrid(t, "a product that is too large", g, e, api.Grid{}, api.ErrLimit)
				continue
			}
			want(t, "error of Product", e, api.OK)
			for cell, x := range g.Cells {
				i, j := cell/(m*n), cell%(m*n)
				outer, inner := a.Cells[i/n*m+j/n], b.Cells[i%n*n+j%n]
				want(t, "a number of a product", x, (outer-1)*n*n+inner)
			}
			want(t, "a product of magic squares", hasKinds(g, "normal", "magic"), m != 2 && n != 2)
		}
	}
	a, _ := Pandiagonal(4)
	g, e := Product(a, a)
	want(t, "a product of pandiagonal squares", []any{e, hasKinds(g, "normal", "pandiagonal")}, []any{api.OK, true})
	one, _ := Pandiagonal(13)
	g, e = Product(grid(1, 1), one)
	wantGrid(t, "a product of 1 and a pandiagonal square", g, e, one, api.OK)
}

func TestErrorsOfProduct(t *testing.T) { // P3.6
	other := grid(2, 1, 2, 3, 3)
	for what, row := range badSquares() {
		g, e := Product(row.g, loShu())
		wantGrid(t, "a: "+what, g, e, api.Grid{}, row.e)
		g, e = Product(loShu(), row.g)
		wantGrid(t, "b: "+what, g, e, api.Grid{}, row.e)
		g, e = Product(row.g, other)
		wantGrid(t, "a: "+what+", and b", g, e, api.Grid{}, row.e)
		g, e = Product(other, row.g)
		wantGrid(t, "a, and b: "+what, g, e, api.Grid{}, api.ErrForm)
	}
	large := grid(9, upTo(81)...)
	large.Cells[80] = 80
	g, e := Product(grid(2, 1, 2, 3, 4), large)
	wantGrid(t, "an error before the limit", g, e, api.Grid{}, api.ErrForm)
}

func TestBorder(t *testing.T) { // P3.6
	g, e := Border(grid(1, 1))
	wantGrid(t, "a border of 1", g, e, loShu(), api.OK)
	g, e = Border(loShu())
	wantGrid(t, "a border of the order 3", g, e, grid(5, 1, 2, 18, 21, 23, 19, 10, 15, 14, 7, 20, 17, 13, 9, 6, 22, 12, 11, 16, 4, 3, 24, 8, 5, 25), api.OK)
	g, e = Border(durer())
	wantGrid(t, "a border of the order 4", g, e, grid(6, 1, 3, 10, 33, 35, 29, 9, 26, 13, 12, 23, 28, 30, 15, 20, 21, 18, 7,
		31, 19, 16, 17, 22, 6, 32, 14, 25, 24, 11, 5, 8, 34, 27, 4, 2, 36), api.OK)
}

// least tries all numbers in the first row, and then in the first column, and
// returns the first ones with which a border of the order n is magic.
func least(n int) (row, column []int) {
	var outer []int
	for x := 1; x <= n*n; x++ {
		if x < 2*n-1 || n*n+1-x < 2*n-1 {
			outer = append(outer, x)
		}
	}
	sum := func(list []int) int {
		total := 0
		for _, x := range list {
			total += x
		}
		return total
	}
	var choose func(chosen []int, length int, visit func([]int) bool) bool
	choose = func(chosen []int, length int, visit func([]int) bool) bool {
		if len(chosen) == length {
			return visit(chosen)
		}
		for _, x := range outer {
			if !slices.Contains(chosen, x) && !slices.Contains(chosen, n*n+1-x) && choose(append(chosen, x), length, visit) {
				return true
			}
		}
		return false
	}
	choose(nil, n, func(top []int) bool {
		return 2*sum(top) == n*(n*n+1) && choose(top, 2*n-2, func(all []int) bool {
			corners := all[0] + n*n + 1 - all[n-1]
			row, column = slices.Clone(all[:n]), slices.Clone(all[n:])
			return 2*(sum(column)+corners) == n*(n*n+1)
		})
	})
	return row, column
}

func TestBordersAreLeast(t *testing.T) { // P3.6, P3.8
	middles := []api.Grid{grid(1, 1), loShu(), durer()}
	for _, n := range []int{3, 4} {
		g, _ := Magic(n)
		turned := grid(n)
		for i := range n {
			for j := range n {
				turned.Cells = append(turned.Cells, g.Cells[n*j+n-1-i])
			}
		}
		middles = append(middles, g, turned)
	}
	most, _ := Pandiagonal(4)
	middles = append(middles, most)
	for _, g := range middles {
		m, n := g.Rows, g.Rows+2
		before := slices.Clone(g.Cells)
		b, e := Border(g)
		want(t, "error of Border", e, api.OK)
		want(t, "the square afterwards", g.Cells, before)
		want(t, "a border is magic", hasKinds(b, "normal", "magic"), true)
		if n >= 5 && m != 4 { // a border of the order 6 is about squares of 4 and 2
			want(t, "a border is bordered", hasKinds(b, "bordered"), true)
		}
		for i := range m {
			for j := range m {
				want(t, "a number in the middle", b.Cells[n*(i+1)+j+1], g.Cells[m*i+j]+2*m+2)
			}
		}
		row, column := least(n)
		want(t, "the first row", b.Cells[:n], row)
		for i, x := range column {
			want(t, "the first column", b.Cells[n*(i+1)], x)
		}
	}
}

func TestErrorsOfBorder(t *testing.T) { // P3.6
	for what, row := range badSquares() {
		g, e := Border(row.g)
		wantGrid(t, what, g, e, api.Grid{}, row.e)
	}
	for _, row := range []struct {
		what string
		g    api.Grid
		e    api.Errno
	}{
		{"the order 2", grid(2, 1, 2, 3, 4), api.ErrSum},
		{"wrong rows", grid(3, 1, 2, 3, 4, 5, 6, 7, 8, 9), api.ErrSum},
		{"wrong diagonals", grid(3, 7, 6, 2, 5, 1, 9, 3, 8, 4), api.ErrSum},
		{"wrong columns alone", grid(4, 13, 3, 2, 16, 11, 5, 10, 8, 6, 7, 12, 9, 1, 14, 15, 4), api.ErrSum},
		{"wrong rows alone", grid(4, 13, 11, 6, 1, 3, 5, 7, 14, 2, 10, 12, 15, 16, 8, 9, 4), api.ErrSum},
		{"a wrong main diagonal alone", grid(4, 11, 9, 12, 2, 6, 13, 14, 1, 7, 8, 3, 16, 10, 4, 5, 15), api.ErrSum},
		{"a wrong other diagonal alone", grid(4, 8, 10, 5, 11, 13, 3, 4, 14, 1, 15, 16, 2, 12, 6, 9, 7), api.ErrSum},
		{"an order 5 that is not magic", grid(5, upTo(25)...), api.ErrSum},
		{"an order 16 that is not magic", grid(16, upTo(256)...), api.ErrSum},
	} {
		g, e := Border(row.g)
		wantGrid(t, row.what, g, e, api.Grid{}, row.e)
	}
	for n := 5; n <= 16; n++ {
		g, _ := Magic(n)
		b, e := Border(g)
		wantGrid(t, "a magic square that is too large", b, e, api.Grid{}, api.ErrLimit)
	}
}

func TestRectangle(t *testing.T) { // P3.6, P3.8
	g, e := Rectangle(2, 4)
	wantGrid(t, "2 rows of 4", g, e, api.Grid{Rows: 2, Cols: 4, Cells: []int{1, 7, 6, 4, 8, 2, 3, 5}}, api.OK)
	g, e = Rectangle(4, 4)
	wantGrid(t, "4 rows of 4", g, e, grid(4, 1, 15, 14, 4, 16, 2, 3, 13, 5, 11, 10, 8, 12, 6, 7, 9), api.OK)
	for rows := -3; rows <= 20; rows++ {
		for cols := -3; cols <= 20; cols++ {
			g, e := Rectangle(rows, cols)
			switch {
			case rows < 1 || rows > 16 || cols < 1 || cols > 16:
				wantGrid(t, "no rectangle", g, e, api.Grid{}, api.ErrRange)
			case rows%2 == 1 || cols%4 != 0:
				wantGrid(t, "none of this shape", g, e, api.Grid{}, api.ErrNone)
			default:
				wantRectangle(t, g, e, rows, cols)
			}
		}
	}
	for _, pair := range [][2]int{{math.MinInt, 4}, {2, math.MaxInt}, {math.MaxInt, 1}, {1, math.MinInt}} {
		g, e := Rectangle(pair[0], pair[1])
		wantGrid(t, "no rectangle", g, e, api.Grid{}, api.ErrRange)
	}
}

// wantRectangle compares a rectangle with its definition, and its sums with each other.
func wantRectangle(t *testing.T, g api.Grid, e api.Errno, rows, cols int) {
	t.Helper()
	both := rows*cols + 1
	wanted := api.Grid{Rows: rows, Cols: cols, Cells: make([]int, rows*cols)}
	for x := 1; x <= rows*cols/2; x++ {
		k, j := (x-1)/cols, (x-1)%cols
		upper, lower := x, both-x
		if j%4 == 1 || j%4 == 2 {
			upper, lower = lower, upper
		}
		wanted.Cells[2*k*cols+j], wanted.Cells[(2*k+1)*cols+j] = upper, lower
	}
	wantGrid(t, "Rectangle", g, e, wanted, api.OK)
	rowSums, columnSums := make([]int, rows), make([]int, cols)
	for cell, x := range g.Cells {
		rowSums[cell/cols] += x
		columnSums[cell%cols] += x
	}
	want(t, "sums of rows", slices.Repeat([]int{cols * both / 2}, rows), rowSums)
	want(t, "sums of columns", slices.Repeat([]int{rows * both / 2}, cols), columnSums)
	want(t, "numbers of a rectangle", slices.Sorted(slices.Values(g.Cells)), upTo(rows*cols))
}
