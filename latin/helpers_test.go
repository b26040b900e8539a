package latin

import (
	"math"
	"math/rand"
	"reflect"
	"slices"
	"testing"

	"talisman/api"
)

// want reports a result that is not the wanted one.
func want(t *testing.T, what string, got, wanted any) {
	t.Helper()
	if !reflect.DeepEqual(got, wanted) {
		t.Errorf("%s: got %v, want %v", what, got, wanted)
	}
}

// wantGrid is want for a grid and its error; nil and empty cells are equal.
func wantGrid(t *testing.T, what string, got api.Grid, e api.Errno, wanted api.Grid, wantedError api.Errno) {
	t.Helper()
	want(t, "error of "+what, e, wantedError)
	want(t, "shape of "+what, []int{got.Rows, got.Cols}, []int{wanted.Rows, wanted.Cols})
	wantList(t, what, got.Cells, wanted.Cells)
}

// wantList is want for lists: nil and empty ones are equal.
func wantList[T any](t *testing.T, what string, got, wanted []T) {
	t.Helper()
	if len(got) > 0 || len(wanted) > 0 {
		want(t, what, got, wanted)
	}
}

// wantApart reports grids that share memory with each other or with other cells.
func wantApart(t *testing.T, what string, grids []api.Grid, others ...[]int) {
	t.Helper()
	lists := slices.Clone(others)
	for _, g := range grids {
		lists = append(lists, g.Cells)
	}
	var before [][]int
	for _, list := range lists {
		before = append(before, slices.Clone(list))
	}
	for i, list := range lists {
		for k := range list[:cap(list)] {
			list[:cap(list)][k] += 100
		}
		for k := range lists {
			if k != i && !slices.Equal(lists[k], before[k]) {
				t.Errorf("%s: lists share memory", what)
			}
		}
		for k := range list[:cap(list)] {
			list[:cap(list)][k] -= 100
		}
	}
}

// grid returns a square with some numbers.
func grid(n int, cells ...int) api.Grid {
	return api.Grid{Rows: n, Cols: n, Cells: cells}
}

// copyOf returns a grid with cells of its own.
func copyOf(g api.Grid) api.Grid {
	g.Cells = slices.Clone(g.Cells)
	return g
}

// cyclic returns the addition table modulo n.
func cyclic(n int) api.Grid {
	return squareWith(n, func(i, j int) int { return (i + j) % n })
}

// binary returns the addition table of the digits to the base 2, for n a power of 2.
func binary(n int) api.Grid {
	return squareWith(n, func(i, j int) int { return i ^ j })
}

// squareWith returns the square with the symbols that a function tells.
func squareWith(n int, symbol func(i, j int) int) api.Grid {
	g := grid(n)
	for i := range n {
		for j := range n {
			g.Cells = append(g.Cells, symbol(i, j))
		}
	}
	return g
}

// symmetricGroup returns the table of the permutations of three things.
func symmetricGroup() api.Grid {
	perms := permutations(3)
	return squareWith(6, func(i, j int) int {
		p, q := perms[i], perms[j]
		both := []int{p[q[0]], p[q[1]], p[q[2]]}
		return slices.IndexFunc(perms, func(r []int) bool { return slices.Equal(r, both) })
	})
}

// noGroup returns a reduced square of the order 5 that is not that of a group.
func noGroup() api.Grid {
	return grid(5, 0, 1, 2, 3, 4, 1, 0, 3, 4, 2, 2, 3, 4, 0, 1, 3, 4, 1, 2, 0, 4, 2, 0, 1, 3)
}

// permutations returns the permutations of 0 to n - 1 in ascending order.
func permutations(n int) [][]int {
	if n == 0 {
		return [][]int{nil}
	}
	var all [][]int
	for first := range n {
		for _, rest := range permutations(n - 1) {
			p := []int{first}
			for _, x := range rest {
				if x >= first {
					x++
				}
				p = append(p, x)
			}
			all = append(all, p)
		}
	}
	return all
}

// isLatin reports whether a grid is a latin rectangle whose rows have all symbols.
func isLatin(g api.Grid) bool {
	for i := range g.Rows {
		for j := range g.Cols {
			x := g.Cells[i*g.Cols+j]
			if x < 0 || x >= g.Cols {
				return false
			}
			for k := range g.Cols {
				if k != j && g.Cells[i*g.Cols+k] == x {
					return false
				}
			}
			for k := range g.Rows {
				if k != i && g.Cells[k*g.Cols+j] == x {
					return false
				}
			}
		}
	}
	return len(g.Cells) == g.Rows*g.Cols
}

// extending returns the latin squares that have the symbols of a grid, in
// ascending order. It puts one permutation after another into the rows.
func extending(p api.Grid) []api.Grid {
	n := p.Rows
	var all []api.Grid
	perms := permutations(n)
	var visit func(cells []int)
	visit = func(cells []int) {
		if len(cells) == n*n {
			all = append(all, grid(n, slices.Clone(cells)...))
			return
		}
	next:
		for _, row := range perms {
			for j, x := range row {
				if given := p.Cells[len(cells)+j]; given != -1 && given != x {
					continue next
				}
				for k := j; k < len(cells); k += n {
					if cells[k] == x {
						continue next
					}
				}
			}
			visit(slices.Concat(cells, row))
		}
	}
	visit(nil)
	return all
}

// allSquares returns all latin squares of an order.
func allSquares(n int) []api.Grid {
	return extending(grid(n, slices.Repeat([]int{-1}, n*n)...))
}

// shuffled returns an isotope of a square, computed as the definition says it.
func shuffled(random *rand.Rand, l api.Grid) api.Grid {
	n := l.Rows
	rows, cols, symbols := random.Perm(n), random.Perm(n), random.Perm(n)
	return squareWith(n, func(i, j int) int { return symbols[l.Cells[n*rows[i]+cols[j]]] })
}

// someSquare returns a latin square of an order up to 7, of any form.
func someSquare(random *rand.Rand, n int) api.Grid {
	for {
		g := grid(n)
		for len(g.Cells) < n*n {
			i, j := len(g.Cells)/n, len(g.Cells)%n
			var left []int
			for x := range n {
				if !slices.Contains(g.Cells[n*i:], x) && !columnHas(g, j, x) {
					left = append(left, x)
				}
			}
			if len(left) == 0 {
				break
			}
			g.Cells = append(g.Cells, left[random.Intn(len(left))])
		}
		if len(g.Cells) == n*n {
			return g
		}
	}
}

func columnHas(g api.Grid, j, x int) bool {
	for k := j; k < len(g.Cells); k += g.Cols {
		if g.Cells[k] == x {
			return true
		}
	}
	return false
}

// samples returns latin squares of all orders.
func samples() []api.Grid {
	random := rand.New(rand.NewSource(4))
	var all []api.Grid
	for n := 1; n <= 3; n++ {
		all = append(all, allSquares(n)...)
	}
	for n := 4; n <= 7; n++ {
		for range 12 {
			all = append(all, someSquare(random, n))
		}
	}
	for n := 4; n <= 16; n++ {
		all = append(all, cyclic(n), shuffled(random, cyclic(n)))
	}
	for n := 4; n <= 16; n *= 2 {
		all = append(all, binary(n), shuffled(random, binary(n)))
	}
	return append(all, symmetricGroup(), shuffled(random, symmetricGroup()), noGroup())
}

// badGrid is a grid with its error.
type badGrid struct {
	g api.Grid
	e api.Errno
}

// badShapes returns grids that have not the shape of a square.
func badShapes() map[string]badGrid {
	return map[string]badGrid{
		"nothing":                    {api.Grid{}, api.ErrShape},
		"cells alone":                {api.Grid{Cells: []int{0}}, api.ErrShape},
		"a rectangle":                {api.Grid{Rows: 2, Cols: 3, Cells: []int{0, 1, 2, 1, 2, 0}}, api.ErrShape},
		"a rectangle that is high":   {api.Grid{Rows: 3, Cols: 2, Cells: []int{0, 1, 1, 0, 0, 1}}, api.ErrShape},
		"a column alone":             {api.Grid{Rows: 2, Cols: 1, Cells: []int{0, 1, 1, 0}}, api.ErrShape},
		"a cell too few":             {grid(2, 0, 1, 1), api.ErrShape},
		"a cell too many":            {grid(2, 0, 1, 1, 0, 0), api.ErrShape},
		"no cells":                   {grid(2), api.ErrShape},
		"the order -1":               {grid(-1, 0), api.ErrShape},
		"the order 17":               {cyclic(17), api.ErrShape},
		"an order whose square is 0": {grid(1 << 32), api.ErrShape},
		"the greatest order":         {grid(math.MaxInt, 0), api.ErrShape},
		"the least order":            {grid(math.MinInt), api.ErrShape},
		"a shape, and wrong symbols": {grid(2, 5, 5, 5), api.ErrShape},
	}
}

// badSquares returns grids that are no latin squares, with their errors.
func badSquares() map[string]badGrid {
	bad := badShapes()
	for what, row := range map[string]badGrid{
		"an open cell":                {grid(2, 0, 1, 1, -1), api.ErrRange},
		"the number 2 of the order 2": {grid(2, 0, 1, 2, 0), api.ErrRange},
		"the number 1 of the order 1": {grid(1, 1), api.ErrRange},
		"the least number":            {grid(1, math.MinInt), api.ErrRange},
		"the greatest number":         {grid(1, math.MaxInt), api.ErrRange},
		"twice, and out of range":     {grid(2, 0, 0, 0, 2), api.ErrRange},
		"a symbol twice in a row":     {grid(3, 0, 1, 2, 1, 2, 1, 2, 0, 0), api.ErrLatin},
		"a symbol twice in columns":   {grid(3, 0, 1, 2, 0, 1, 2, 0, 1, 2), api.ErrLatin},
		"a symbol twice in rows":      {grid(3, 0, 0, 0, 1, 1, 1, 2, 2, 2), api.ErrLatin},
		"the last two exchanged":      {grid(3, 0, 1, 2, 1, 2, 0, 2, 1, 0), api.ErrLatin},
		"the same symbol everywhere":  {grid(2, 0, 0, 0, 0), api.ErrLatin},
	} {
		bad[what] = row
	}
	last := cyclic(16)
	last.Cells[255] = 15
	bad["the last cell of the order 16"] = badGrid{last, api.ErrLatin}
	return bad
}

// badOrders returns integers that are no orders.
func badOrders() []int {
	return []int{0, -1, 17, 25, math.MinInt, math.MaxInt}
}
