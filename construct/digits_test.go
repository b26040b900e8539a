package construct

import (
	"math"
	"math/rand"
	"slices"
	"testing"

	"talisman/api"
)

func TestDigits(t *testing.T) { // P3.3
	for _, row := range []struct{ g, a, b api.Grid }{
		{grid(1, 1), grid(1, 0), grid(1, 0)},
		{grid(2, 1, 2, 3, 4), grid(2, 0, 1, 0, 1), grid(2, 0, 0, 1, 1)},
		{loShu(), grid(3, 1, 0, 2, 2, 1, 0, 0, 2, 1), grid(3, 0, 2, 1, 2, 1, 0, 1, 0, 2)},
	} {
		a, b, e := Digits(row.g)
		wantGrid(t, "the digits a", a, e, row.a, api.OK)
		wantGrid(t, "the digits b", b, e, row.b, api.OK)
		g, e := FromDigits(row.a, row.b)
		wantGrid(t, "the square of digits", g, e, row.g, api.OK)
	}
	for what, row := range badSquares() {
		a, b, e := Digits(row.g)
		wantGrid(t, "the digits a of "+what, a, e, api.Grid{}, row.e)
		wantGrid(t, "the digits b of "+what, b, e, api.Grid{}, row.e)
	}
}

func TestDigitsOfAnySquare(t *testing.T) { // P3.3
	random := rand.New(rand.NewSource(4))
	for n := 1; n <= 16; n++ {
		for range 5 {
			cells := random.Perm(n * n)
			for i := range cells {
				cells[i]++
			}
			before := slices.Clone(cells)
			a, b, e := Digits(grid(n, cells...))
			want(t, "error of Digits", e, api.OK)
			for i, x := range cells {
				want(t, "the number of two digits", a.Cells[i]+n*b.Cells[i]+1, x)
				want(t, "the digit a is less than n", 0 <= a.Cells[i] && a.Cells[i] < n, true)
			}
			beforeA, beforeB := slices.Clone(a.Cells), slices.Clone(b.Cells)
			g, e := FromDigits(a, b)
			wantGrid(t, "the square again", g, e, grid(n, cells...), api.OK)
			g.Cells[0] = -1
			want(t, "the squares afterwards", [][]int{cells, a.Cells, b.Cells}, [][]int{before, beforeA, beforeB})
		}
	}
}

func TestErrorsOfFromDigits(t *testing.T) { // P3.3
	a, b := grid(2, 0, 1, 0, 1), grid(2, 0, 0, 1, 1)
	three := grid(3, 0, 0, 0, 1, 1, 1, 2, 2, 2)
	for what, row := range badSquares() {
		if row.e == api.ErrShape {
			g, e := FromDigits(row.g, b)
			wantGrid(t, "a: "+what, g, e, api.Grid{}, api.ErrShape)
			g, e = FromDigits(a, row.g)
			wantGrid(t, "b: "+what, g, e, api.Grid{}, api.ErrShape)
			g, e = FromDigits(grid(2, 0, 1, 0, 2), row.g)
			wantGrid(t, "a digit 2, and b: "+what, g, e, api.Grid{}, api.ErrRange)
			g, e = FromDigits(row.g, grid(2, 0, 0, 1, 2))
			wantGrid(t, "a: "+what+", and a digit 2", g, e, api.Grid{}, api.ErrShape)
		}
	}
	for _, row := range []struct {
		what string
		a, b api.Grid
		e    api.Errno
	}{
		{"a digit a of 2", grid(2, 0, 1, 0, 2), b, api.ErrRange},
		{"a digit a below 0", grid(2, -1, 1, 0, 1), b, api.ErrRange},
		{"a digit b of 2", a, grid(2, 0, 0, 1, 2), api.ErrRange},
		{"a digit b below 0", a, grid(2, 0, 0, 1, math.MinInt), api.ErrRange},
		{"a great digit b, which makes a number again", a, grid(2, 0, 0, 1, math.MaxInt), api.ErrRange},
		{"a digit of another order", three, grid(2, 0, 0, 1, 2), api.ErrRange},
		{"two orders", a, three, api.ErrShape},
		{"two orders the other way round", three, b, api.ErrShape},
		{"two orders, with the digit 2 in both", grid(2, 0, 1, 0, 2), three, api.ErrRange},
		{"two orders, and digits twice", grid(2, 0, 0, 0, 0), grid(3, 0, 0, 0, 0, 0, 0, 0, 0, 0), api.ErrShape},
		{"the same digits", a, a, api.ErrTwice},
		{"only the digits 0", grid(2, 0, 0, 0, 0), grid(2, 0, 0, 0, 0), api.ErrTwice},
		{"one number twice", grid(2, 0, 1, 0, 0), b, api.ErrTwice},
	} {
		g, e := FromDigits(row.a, row.b)
		wantGrid(t, row.what, g, e, api.Grid{}, row.e)
	}
}
