package lines

import (
	"math"
	"slices"
	"strings"
	"testing"

	"talisman/api"
)

// surrounded returns a square with a border of one number.
func surrounded(n int, cells []int, x int) (int, []int) {
	outer := repeat(x, n+2)
	for r := range n {
		outer = slices.Concat(outer, []int{x}, cells[r*n:(r+1)*n], []int{x})
	}
	return n + 2, append(outer, repeat(x, n+2)...)
}

// made returns the square of a function of row and column.
func made(n int, number func(r, c int) int) []int {
	var cells []int
	for r := range n {
		for c := range n {
			cells = append(cells, number(r, c))
		}
	}
	return cells
}

// siamese is magic and associative; the square within its border is not magic.
func siamese() []int {
	return []int{17, 24, 1, 8, 15, 23, 5, 7, 14, 16, 4, 6, 13, 20, 22, 10, 12, 19, 21, 3, 11, 18, 25, 2, 9}
}

func durer() []int {
	return []int{16, 3, 2, 13, 5, 10, 11, 8, 9, 6, 7, 12, 4, 15, 14, 1}
}

func bimagic() []int {
	return []int{
		56, 34, 8, 57, 18, 47, 9, 31, 33, 20, 54, 48, 7, 29, 59, 10, 26, 43, 13, 23, 64, 38, 4, 49, 19, 5, 35, 30, 53, 12, 46, 60,
		15, 25, 63, 2, 41, 24, 50, 40, 6, 55, 17, 11, 36, 58, 32, 45, 61, 16, 42, 52, 27, 1, 39, 22, 44, 62, 28, 37, 14, 51, 21, 3}
}

func trimagic() []int {
	return []int{
		1, 22, 33, 41, 62, 66, 79, 83, 104, 112, 123, 144, 9, 119, 45, 115, 107, 93, 52, 38, 30, 100, 26, 136,
		75, 141, 35, 48, 57, 14, 131, 88, 97, 110, 4, 70, 74, 8, 106, 49, 12, 43, 102, 133, 96, 39, 137, 71,
		140, 101, 124, 42, 60, 37, 108, 85, 103, 21, 44, 5, 122, 76, 142, 86, 67, 126, 19, 78, 59, 3, 69, 23,
		55, 27, 95, 135, 130, 89, 56, 15, 10, 50, 118, 90, 132, 117, 68, 91, 11, 99, 46, 134, 54, 77, 28, 13,
		73, 64, 2, 121, 109, 32, 113, 36, 24, 143, 81, 72, 58, 98, 84, 116, 138, 16, 129, 7, 29, 61, 47, 87,
		80, 34, 105, 6, 92, 127, 18, 53, 139, 40, 111, 65, 51, 63, 31, 20, 25, 128, 17, 120, 125, 114, 82, 94}
}

// wantKinds tells that a square has just these kinds.
func wantKinds(t *testing.T, what string, n int, cells []int, kinds string) {
	t.Helper()
	before := slices.Clone(cells)
	names, e := Kinds(grid(n, cells))
	want(t, "error of Kinds of "+what, e, api.OK)
	wantList(t, "Kinds of "+what, names, strings.Fields(kinds))
	want(t, "the square afterwards", cells, before)
}

func TestKindsOfKnownSquares(t *testing.T) { // P2.5
	wantKinds(t, "the order 1", 1, []int{1}, "normal semimagic magic pandiagonal associative bimagic")
	wantKinds(t, "another number", 1, []int{-7}, "semimagic magic pandiagonal associative bimagic")
	wantKinds(t, "the order 2", 2, []int{1, 2, 2, 1}, "semimagic")
	wantKinds(t, "a normal square", 2, []int{1, 2, 3, 4}, "normal")
	wantKinds(t, "no kind", 2, []int{1, 2, 3, 5}, "")
	wantKinds(t, "the example", 3, loShu(), "normal semimagic magic associative")
	wantKinds(t, "numbers in a row", 3, []int{1, 2, 3, 4, 5, 6, 7, 8, 9}, "normal")
	wantKinds(t, "shifted columns", 3, []int{7, 6, 2, 5, 1, 9, 3, 8, 4}, "normal semimagic")
	wantKinds(t, "an associative square", 4, durer(), "normal semimagic magic associative")
	wantKinds(t, "a most-perfect square", 4, []int{1, 15, 4, 14, 8, 10, 5, 11, 13, 3, 16, 2, 12, 6, 9, 7}, "normal semimagic magic pandiagonal most-perfect")
	wantKinds(t, "a siamese square", 5, siamese(), "normal semimagic magic associative")
	wantKinds(t, "a bimagic square", 8, bimagic(), "normal semimagic magic bimagic")
	wantKinds(t, "a trimagic square", 12, trimagic(), "normal semimagic magic bimagic")
	pandiagonal := made(5, func(r, c int) int { return 5*((c+2*r)%5) + (c+3*r)%5 })
	wantKinds(t, "a pandiagonal square from 0 on", 5, pandiagonal, "semimagic magic pandiagonal")
	pandiagonal = mapped(pandiagonal, func(x int) int { return x + 1 })
	wantKinds(t, "a pandiagonal square", 5, pandiagonal, "normal semimagic magic pandiagonal")
}

func TestKindsOfEqualNumbers(t *testing.T) { // P2.5
	for n := 1; n <= 16; n++ {
		kinds := "semimagic magic pandiagonal associative"
		if n%2 == 0 {
			kinds += " most-perfect"
		}
		if n >= 5 {
			kinds += " bordered"
		}
		for _, x := range []int{0, api.MaxNumber, -api.MaxNumber} {
			wantKinds(t, "equal numbers", n, repeat(x, n*n), kinds+" bimagic")
		}
	}
}

func TestDiagonals(t *testing.T) { // P2.5
	one := func(cells ...int) []int { // 1 and -1 in turn, else 0
		square := repeat(0, 25)
		for i, cell := range cells {
			square[cell] = 1 - 2*(i%2)
		}
		return square
	}
	wantKinds(t, "a wrong down diagonal", 5, one(0, 2, 17, 15), "semimagic")
	wantKinds(t, "a wrong up diagonal", 5, one(4, 2, 17, 19), "semimagic")
	wantKinds(t, "wrong broken diagonals", 5, one(1, 3, 13, 11), "semimagic magic")
	wantKinds(t, "a wrong row and column", 5, one(1), "")
	wantKinds(t, "wrong columns", 5, one(1, 3), "")
	wantKinds(t, "wrong rows", 5, one(1, 11), "")
}

func TestMostPerfect(t *testing.T) { // P2.5
	waves := func(n int, u []int) []int { // of blocks with the sum 0
		sign := func(i int) int { return 1 - 2*(i%2) }
		return made(n, func(r, c int) int { return sign(c)*u[r] + sign(r)*u[c] })
	}
	wantKinds(t, "pairs and blocks that are equal", 6, waves(6, []int{1, -3, 2, 1, -3, 2}), "semimagic magic pandiagonal most-perfect")
	wantKinds(t, "pairs that differ", 6, waves(6, []int{2, 0, -2, 0, 0, 0}), "semimagic magic pandiagonal")
	a, d := []int{1, 0, 0, -1, 0, 0}, []int{1, -1, 0, 1, -1, 0}
	wantKinds(t, "blocks that differ", 6, made(6, func(r, c int) int { return a[r] * d[c] }), "semimagic magic pandiagonal")
	wantKinds(t, "equal pairs and blocks, and rows that differ", 6, made(6, func(r, c int) int { return r % 2 }), "")
}

func TestAssociative(t *testing.T) { // P2.5
	wantKinds(t, "opposites with equal sums, and rows that differ", 3, []int{1, 2, 3, 4, 5, 6, 7, 8, 9}, "normal")
	wantKinds(t, "opposites with the sum 0", 4, []int{0, 1, -1, 0, 0, -1, 1, 0, 0, -1, 1, 0, 0, 1, -1, 0}, "semimagic magic associative")
	wantKinds(t, "opposites that differ", 4, []int{0, 1, -1, 0, 0, 0, 0, 0, 0, 0, 0, 0, 0, -1, 1, 0}, "semimagic magic")
}

func TestBordered(t *testing.T) { // P2.5
	n, cells := surrounded(3, loShu(), 5)
	wantKinds(t, "a border of the order 5", n, cells, "semimagic magic associative bordered")
	n, cells = surrounded(n, cells, 5)
	wantKinds(t, "a border of the order 7", n, cells, "semimagic magic associative bordered")
	for i, x := range []int{1, -1, -1, 1} { // in the rows 0 and 1, and in the columns 2 and 4
		cells[i/2*7+2+2*(i%2)] += x
	}
	wantKinds(t, "a second border that is not magic", n, cells, "semimagic magic")
	n, cells = surrounded(5, siamese(), 13)
	wantKinds(t, "a third square that is not magic", n, cells, "semimagic magic associative")
	n, cells = surrounded(4, mapped(durer(), func(x int) int { return 2 * x }), 17)
	wantKinds(t, "a border of the order 6, about 2 rows that do not count", n, cells, "semimagic magic associative bordered")
	n, cells = surrounded(3, loShu(), 6)
	wantKinds(t, "a border that is not magic", n, cells, "")
	n, cells = surrounded(2, []int{1, 1, 1, 1}, 1)
	wantKinds(t, "a border of the order 4", n, cells, "semimagic magic pandiagonal associative most-perfect bimagic")
}

func TestMultimagic(t *testing.T) { // P2.5
	times := func(cells []int, factor int) []int {
		return mapped(cells, func(x int) int { return x * factor })
	}
	opposite := func(x int) int { return 65 - 2*x }
	latin := func(n, x, y int) []int {
		return made(n, func(r, c int) int { return []int{x, y, -x, -y, 0}[(2*r+c)%n] })
	}
	for _, row := range []struct {
		what  string
		n     int
		cells []int
		power int // 0 if it is not magic
	}{
		{"the example", 3, loShu(), 1}, {"the order 1", 1, []int{3}, 4}, {"equal numbers", 4, repeat(-api.MaxNumber, 16), 4},
		{"a semimagic square", 2, []int{1, 2, 2, 1}, 0}, {"no kind", 2, []int{1, 2, 3, 4}, 0},
		{"a bimagic square", 8, bimagic(), 2}, {"a trimagic square", 12, trimagic(), 3},
		{"a bimagic square about 0", 8, mapped(bimagic(), opposite), 2},
		{"a latin square", 5, latin(5, 1, 2), 4}, {"a latin square of large numbers", 5, latin(5, api.MaxNumber, 1-api.MaxNumber), 4},
		// Their third or fourth powers are multiples of 2 to the power 64.
		{"third powers that are large", 8, times(bimagic(), 1<<22), 2}, {"fourth powers that are large", 12, times(trimagic(), 1<<16), 3},
		{"second powers that differ by little", 3, mapped(loShu(), func(x int) int { return api.MaxNumber - x }), 1},
	} {
		p, e := Multimagic(grid(row.n, row.cells))
		if row.power == 0 {
			want(t, "Multimagic of "+row.what, []any{p, e}, []any{0, api.ErrSum})
		} else {
			want(t, "Multimagic of "+row.what, []any{p, e}, []any{row.power, api.OK})
		}
		names, _ := Kinds(grid(row.n, row.cells))
		want(t, "bimagic: "+row.what, slices.Contains(names, "bimagic"), row.power >= 2)
	}
}

func TestErrorsOfSquares(t *testing.T) { // P2.5
	for _, row := range []struct {
		what string
		g    api.Grid
		e    api.Errno
	}{
		{"nothing", api.Grid{}, api.ErrRange},
		{"more rows", api.Grid{Rows: 2, Cols: 1, Cells: []int{1, 2}}, api.ErrShape},
		{"more columns", api.Grid{Rows: 1, Cols: 2, Cells: []int{1, 2}}, api.ErrShape},
		{"fewer than no rows", api.Grid{Rows: -1, Cols: -1, Cells: []int{1}}, api.ErrShape},
		{"fewer than no rows and no cells", api.Grid{Rows: math.MinInt, Cols: math.MinInt}, api.ErrShape},
		{"too few cells", api.Grid{Rows: 2, Cols: 2, Cells: []int{1}}, api.ErrShape},
		{"too many cells", api.Grid{Rows: 1, Cols: 1, Cells: []int{1, 2}}, api.ErrShape},
		{"cells of no rows", api.Grid{Cells: []int{1}}, api.ErrShape},
		{"no cells", api.Grid{Rows: 1, Cols: 1}, api.ErrShape},
		{"an order whose square is 0 in 64 bits", api.Grid{Rows: 1 << 32, Cols: 1 << 32}, api.ErrShape},
		{"the largest order", api.Grid{Rows: math.MaxInt, Cols: math.MaxInt, Cells: []int{1}}, api.ErrShape},
		{"a wrong shape of numbers out of their range", api.Grid{Rows: 2, Cols: 2, Cells: []int{math.MaxInt}}, api.ErrShape},
		{"the order 17", api.Grid{Rows: 17, Cols: 17, Cells: repeat(1, 289)}, api.ErrRange},
		{"the order 17 without its cells", api.Grid{Rows: 17, Cols: 17, Cells: repeat(1, 288)}, api.ErrShape},
		{"a number above its range", api.Grid{Rows: 1, Cols: 1, Cells: []int{1000000000}}, api.ErrRange},
		{"a number below its range", api.Grid{Rows: 2, Cols: 2, Cells: []int{0, 0, 0, -1000000000}}, api.ErrRange},
		{"a number far out", api.Grid{Rows: 1, Cols: 1, Cells: []int{math.MinInt}}, api.ErrRange},
	} {
		names, e := Kinds(row.g)
		want(t, "Kinds of "+row.what, []any{len(names), e}, []any{0, row.e})
		p, e := Multimagic(row.g)
		want(t, "Multimagic of "+row.what, []any{p, e}, []any{0, row.e})
	}
}
