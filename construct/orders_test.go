package construct

import (
	"math"
	"slices"
	"testing"

	"talisman/api"
)

// constructions returns the functions of an order, each with the orders that it has.
func constructions() map[string]struct {
	make func(n int) (api.Grid, api.Errno)
	has  func(n int) bool
} {
	type row = struct {
		make func(n int) (api.Grid, api.Errno)
		has  func(n int) bool
	}
	return map[string]row{
		"Siamese":     {Siamese, func(n int) bool { return n%2 == 1 }},
		"DoublyEven":  {DoublyEven, func(n int) bool { return n%4 == 0 }},
		"SinglyEven":  {SinglyEven, func(n int) bool { return n == 6 || n == 10 || n == 14 }},
		"Magic":       {Magic, func(n int) bool { return n != 2 }},
		"Pandiagonal": {Pandiagonal, func(n int) bool { return slices.Contains([]int{1, 4, 5, 7, 8, 11, 12, 13, 16}, n) }},
	}
}

func TestErrorsOfOrders(t *testing.T) { // P3.4, P3.5
	for name, row := range constructions() {
		for _, n := range []int{0, -1, -2, -3, -4, -6, 17, 18, 20, 1 << 32, math.MinInt, math.MaxInt} {
			g, e := row.make(n)
			wantGrid(t, name+" of no order", g, e, api.Grid{}, api.ErrRange)
		}
		for n := 1; n <= 16; n++ {
			g, e := row.make(n)
			if !row.has(n) {
				wantGrid(t, name+" of an order that it has not", g, e, api.Grid{}, api.ErrNone)
				continue
			}
			want(t, "error of "+name, e, api.OK)
			want(t, "shape of "+name, []int{g.Rows, g.Cols, len(g.Cells)}, []int{n, n, n * n})
			want(t, "kinds of "+name, hasKinds(g, "normal", "semimagic", "magic"), true)
			before := slices.Clone(g.Cells)
			g.Cells[0] = 0
			g, e = row.make(n)
			wantGrid(t, name+" once more", g, e, grid(n, before...), api.OK)
		}
	}
}

func TestSiamese(t *testing.T) { // P3.4
	g, e := Siamese(3)
	wantGrid(t, "the order 3", g, e, grid(3, 8, 1, 6, 3, 5, 7, 4, 9, 2), api.OK)
	g, e = Siamese(1)
	wantGrid(t, "the order 1", g, e, grid(1, 1), api.OK)
	g, e = Siamese(5)
	wantGrid(t, "the order 5", g, e, grid(5, 17, 24, 1, 8, 15, 23, 5, 7, 14, 16, 4, 6, 13, 20, 22, 10, 12, 19, 21, 3, 11, 18, 25, 2, 9), api.OK)
	for n := 1; n <= 15; n += 2 {
		g, e := Siamese(n)
		cells, _ := squareOf(siameseStep(n))
		wantGrid(t, "the square of its rule", g, e, grid(n, cells...), api.OK)
	}
}

func TestDoublyEven(t *testing.T) { // P3.4
	g, e := DoublyEven(4)
	wantGrid(t, "the order 4", g, e, grid(4, 16, 2, 3, 13, 5, 11, 10, 8, 9, 7, 6, 12, 4, 14, 15, 1), api.OK)
	for n := 4; n <= 16; n += 4 {
		cells := upTo(n * n)
		for x := range cells {
			i, j := x/n, x%n
			switch [2]int{i % 4, j % 4} { // where a number is exchanged
			case [2]int{0, 0}, [2]int{0, 3}, [2]int{1, 1}, [2]int{1, 2}, [2]int{2, 1}, [2]int{2, 2}, [2]int{3, 0}, [2]int{3, 3}:
				cells[x] = n*n - x
			}
		}
		g, e := DoublyEven(n)
		wantGrid(t, "DoublyEven", g, e, grid(n, cells...), api.OK)
	}
}

// exchanged makes the square of SinglyEven by exchanges, as P3.4 says it.
func exchanged(n int) api.Grid {
	m, k := n/2, (n-2)/4
	quarter, _ := squareOf(siameseStep(m))
	g := api.Grid{Rows: n, Cols: n, Cells: make([]int, n*n)}
	for i := range m {
		for j := range m {
			x := quarter[m*i+j]
			g.Cells[n*i+j], g.Cells[n*(i+m)+j+m] = x, x+m*m
			g.Cells[n*i+j+m], g.Cells[n*(i+m)+j] = x+2*m*m, x+3*m*m
		}
	}
	for i := range m {
		var columns []int
		for j := 0; j <= k-1 && i != k; j++ {
			columns = append(columns, j)
		}
		for j := 1; j <= k && i == k; j++ {
			columns = append(columns, j)
		}
		for j := n - k + 1; j <= n-1; j++ {
			columns = append(columns, j)
		}
		for _, j := range columns {
			upper, lower := n*i+j, n*(i+m)+j
			g.Cells[upper], g.Cells[lower] = g.Cells[lower], g.Cells[upper]
		}
	}
	return g
}

func TestSinglyEven(t *testing.T) { // P3.4
	g, e := SinglyEven(6)
	wantGrid(t, "the order 6", g, e, grid(6, 35, 1, 6, 26, 19, 24, 3, 32, 7, 21, 23, 25, 31, 9, 2, 22, 27, 20,
		8, 28, 33, 17, 10, 15, 30, 5, 34, 12, 14, 16, 4, 36, 29, 13, 18, 11), api.OK)
	for _, n := range []int{6, 10, 14} {
		g, e := SinglyEven(n)
		wantGrid(t, "SinglyEven", g, e, exchanged(n), api.OK)
	}
}

func TestMagic(t *testing.T) { // P3.4
	g, e := Magic(1)
	wantGrid(t, "the order 1", g, e, grid(1, 1), api.OK)
	for n := 3; n <= 16; n++ {
		construction := Siamese
		switch n {
		case 4, 8, 12, 16:
			construction = DoublyEven
		case 6, 10, 14:
			construction = SinglyEven
		}
		wanted, _ := construction(n)
		g, e := Magic(n)
		wantGrid(t, "Magic", g, e, wanted, api.OK)
	}
}
