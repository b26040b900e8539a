package latin

import (
	"math"
	"math/rand"
	"slices"
	"testing"

	"talisman/api"
)

// partialWith returns a square with so many open cells, the others as they are.
func partialWith(random *rand.Rand, l api.Grid, open int) api.Grid {
	p := copyOf(l)
	for _, cell := range random.Perm(len(p.Cells))[:open] {
		p.Cells[cell] = -1
	}
	return p
}

// isPartial reports whether each symbol is at most once in each row and column.
func isPartial(p api.Grid) bool {
	n := p.Cols
	for d, x := range p.Cells {
		for c, y := range p.Cells[:d] {
			if x != -1 && x == y && (c/n == d/n || c%n == d%n) {
				return false
			}
		}
	}
	return true
}

// wantCompletions compares Complete with all latin squares that extend a grid.
func wantCompletions(t *testing.T, p api.Grid, limits ...int) int {
	t.Helper()
	all := extending(p)
	before := copyOf(p)
	for _, limit := range limits {
		found, e := Complete(p, limit)
		if len(all) == 0 {
			want(t, "no completion", []any{len(found), e}, []any{0, api.ErrInfeasible})
			continue
		}
		want(t, "error of Complete", e, api.OK)
		wantList(t, "Complete", found, all[:min(limit, len(all))])
		wantApart(t, "completions", found, p.Cells)
	}
	want(t, "the grid afterwards", p, before)
	return len(all)
}

func TestCompleteExamples(t *testing.T) { // P4.5
	found, e := Complete(grid(2, 0, -1, -1, -1), 5)
	want(t, "the only one", []any{found, e}, []any{[]api.Grid{grid(2, 0, 1, 1, 0)}, api.OK})
	begun := grid(3, 0, 1, 2, -1, -1, -1, -1, -1, -1)
	found, e = Complete(begun, 5)
	want(t, "two", []any{found, e}, []any{[]api.Grid{cyclic(3), grid(3, 0, 1, 2, 2, 0, 1, 1, 2, 0)}, api.OK})
	found, e = Complete(begun, 1)
	want(t, "the first one", []any{found, e}, []any{[]api.Grid{cyclic(3)}, api.OK})
	found, e = Complete(grid(3, 0, 1, -1, -1, -1, 2, -1, -1, -1), 5)
	want(t, "none", []any{len(found), e}, []any{0, api.ErrInfeasible})
	found, e = Complete(grid(1, -1), 1)
	want(t, "the order 1", []any{found, e}, []any{[]api.Grid{grid(1, 0)}, api.OK})
	for n := 1; n <= 7; n++ {
		l := cyclic(n)
		found, e := Complete(l, 256)
		want(t, "no open cells", []any{found, e}, []any{[]api.Grid{cyclic(n)}, api.OK})
		wantApart(t, "the only one", found, l.Cells)
	}
}

func TestCompleteOfSmallOrders(t *testing.T) { // P4.5
	counts := []int{0, 1, 2, 12, 576}
	for n := 1; n <= 4; n++ {
		count := wantCompletions(t, grid(n, slices.Repeat([]int{-1}, n*n)...), 1, 2, 3, 11, 12, 13, 255, 256)
		want(t, "latin squares", count, counts[n])
	}
	for code := range 1 << 16 { // all partial squares of the order 2, and more
		p := squareWith(2, func(i, j int) int { return code>>(2*(2*i+j))&3 - 1 })
		if code < 256 && slices.Max(p.Cells) < 2 && isPartial(p) {
			wantCompletions(t, p, 1, 2)
		}
	}
	random := rand.New(rand.NewSource(9))
	infeasible := 0
	for range 1500 {
		n := random.Intn(3) + 2
		p := squareWith(n, func(i, j int) int { return max(-1, random.Intn(3*n)-2*n) })
		if isPartial(p) && wantCompletions(t, p, 1, 5, 256) == 0 {
			infeasible++
		}
	}
	want(t, "some have no completion", infeasible > 50, true)
}

func TestCompleteOfLargerOrders(t *testing.T) { // P4.5
	random := rand.New(rand.NewSource(10))
	several := 0
	for range 60 {
		n := random.Intn(3) + 5
		l := someSquare(random, n)
		p := partialWith(random, l, random.Intn(5*(n-4))+10)
		if wantCompletions(t, p, 1, 7, 256) > 1 {
			several++
		}
		infeasible := copyOf(p)
		cell := random.Intn(n * n)
		infeasible.Cells[cell] = (l.Cells[cell] + 1) % n
		if isPartial(infeasible) {
			wantCompletions(t, infeasible, 1, 256)
		}
	}
	want(t, "some have several completions", several > 10, true)
	found, e := Complete(grid(5, slices.Repeat([]int{-1}, 25)...), 256)
	want(t, "the first ones of the order 5", []any{len(found), e}, []any{256, api.OK})
	all := extending(grid(5, slices.Concat([]int{0, 1, 2, 3, 4}, slices.Repeat([]int{-1}, 20))...))
	want(t, "they are the first ones", found, all[:256])
}

func TestLimitsOfComplete(t *testing.T) { // P4.5
	random := rand.New(rand.NewSource(11))
	for n := 5; n <= 16; n++ {
		for open := 23; open <= min(28, n*n); open++ {
			p := partialWith(random, cyclic(n), open)
			found, e := Complete(p, 1)
			if n > 7 || open > 25 {
				want(t, "beyond the limits", []any{len(found), e}, []any{0, api.ErrLimit})
			} else {
				want(t, "within the limits", []any{len(found), e}, []any{1, api.OK})
			}
		}
	}
	for n := 8; n <= 16; n++ {
		found, e := Complete(cyclic(n), 1)
		want(t, "no open cells", []any{len(found), e}, []any{0, api.ErrLimit})
	}
	found, e := Complete(grid(7, slices.Repeat([]int{-1}, 49)...), 1)
	want(t, "all cells of the order 7", []any{len(found), e}, []any{0, api.ErrLimit})
	infeasible := grid(6, slices.Repeat([]int{-1}, 36)...)
	copy(infeasible.Cells, []int{0, 1, 2, 3, 4})
	infeasible.Cells[11] = 5
	found, e = Complete(infeasible, 1)
	want(t, "beyond the limits, without a completion", []any{len(found), e}, []any{0, api.ErrLimit})
	for _, limit := range []int{0, -1, 257, math.MinInt, math.MaxInt} {
		for _, p := range []api.Grid{cyclic(3), cyclic(8), infeasible, grid(3, 0, 1, -1, -1, -1, 2, -1, -1, -1)} {
			found, e := Complete(p, limit)
			want(t, "a limit out of its range", []any{len(found), e}, []any{0, api.ErrRange})
		}
	}
}

func TestErrorsOfComplete(t *testing.T) { // P4.5
	bad := badShapes()
	for what, row := range map[string]badGrid{
		"the number -2":            {grid(2, 0, -1, -1, -2), api.ErrRange},
		"the number 2":             {grid(2, 0, -1, -1, 2), api.ErrRange},
		"the greatest number":      {grid(1, math.MaxInt), api.ErrRange},
		"the least number":         {grid(1, math.MinInt), api.ErrRange},
		"twice, and out of range":  {grid(2, 0, 0, -1, -2), api.ErrRange},
		"a symbol twice in a row":  {grid(3, 0, -1, 0, -1, -1, -1, -1, -1, -1), api.ErrLatin},
		"a symbol twice in column": {grid(3, -1, -1, 1, -1, -1, -1, -1, -1, 1), api.ErrLatin},
		"twice in the order 8":     {grid(8, slices.Concat(slices.Repeat([]int{-1}, 62), []int{7, 7})...), api.ErrLatin},
	} {
		bad[what] = row
	}
	for what, row := range bad {
		for _, limit := range []int{1, 0, 257} {
			found, e := Complete(row.g, limit)
			want(t, what, []any{len(found), e}, []any{0, row.e})
		}
	}
}

// leastMate returns the least latin square that is orthogonal to a square, of
// all that are made of n transversals without a common cell.
func leastMate(l api.Grid) (api.Grid, bool) {
	n := l.Rows
	lists := definedTransversals(l)
	var mates []api.Grid
	mate := grid(n, slices.Repeat([]int{-1}, n*n)...)
	var visit func(symbol int)
	visit = func(symbol int) {
		if symbol == n {
			mates = append(mates, copyOf(mate))
			return
		}
	next:
		for _, list := range lists {
			for i, j := range list {
				if mate.Cells[n*i+j] != -1 {
					continue next
				}
			}
			for i, j := range list {
				mate.Cells[n*i+j] = symbol
			}
			visit(symbol + 1)
			for i, j := range list {
				mate.Cells[n*i+j] = -1
			}
		}
	}
	visit(0)
	if len(mates) == 0 {
		return api.Grid{}, false
	}
	return slices.MinFunc(mates, func(a, b api.Grid) int { return slices.Compare(a.Cells, b.Cells) }), true
}

// wantMate compares Mate with the least square made of transversals.
func wantMate(t *testing.T, l api.Grid) bool {
	t.Helper()
	before := copyOf(l)
	g, e := Mate(l)
	wanted, found := leastMate(l)
	if !found {
		wantGrid(t, "no mate", g, e, api.Grid{}, api.ErrNone)
		return false
	}
	wantGrid(t, "a mate", g, e, wanted, api.OK)
	is, e := Orthogonal(l, g)
	want(t, "a mate is orthogonal", []any{is, e}, []any{true, api.OK})
	wantApart(t, "a mate", []api.Grid{g}, l.Cells)
	want(t, "the square afterwards", l, before)
	return true
}

func TestMate(t *testing.T) { // P4.3, P4.9
	g, e := Mate(cyclic(3))
	wantGrid(t, "the mate of Cyclic of 3", g, e, grid(3, 0, 1, 2, 2, 0, 1, 1, 2, 0), api.OK)
	g, e = Mate(cyclic(4))
	wantGrid(t, "no mate of Cyclic of 4", g, e, api.Grid{}, api.ErrNone)
	with := []int{1: 1, 2: 0, 3: 12, 4: 144}
	for n := 1; n <= 4; n++ {
		count := 0
		for _, l := range allSquares(n) {
			if wantMate(t, l) {
				count++
			}
		}
		want(t, "squares with a mate", count, with[n])
	}
	count := 0
	begun := slices.Concat([]int{0, 1, 2, 3, 4}, slices.Repeat([]int{-1}, 20))
	for i := 1; i < 5; i++ {
		begun[5*i] = i
	}
	random := rand.New(rand.NewSource(12))
	for _, l := range extending(grid(5, begun...)) {
		has := wantMate(t, l)
		if has {
			count++
		}
		want(t, "an isotope has a mate", wantMate(t, shuffled(random, l)), has)
	}
	want(t, "reduced squares of the order 5 with a mate", count, 6)
}

func TestErrorsOfMate(t *testing.T) { // P4.3
	for what, row := range badSquares() {
		g, e := Mate(row.g)
		wantGrid(t, what, g, e, api.Grid{}, row.e)
	}
	for n := 6; n <= 16; n++ {
		g, e := Mate(cyclic(n))
		wantGrid(t, "an order that is too large", g, e, api.Grid{}, api.ErrLimit)
	}
}

func TestReduced(t *testing.T) { // P4.7
	counts := []int{1: 1, 2: 1, 3: 1, 4: 4, 5: 56}
	for n := 1; n <= 5; n++ {
		begun := squareWith(n, func(i, j int) int {
			if i == 0 || j == 0 {
				return i + j
			}
			return -1
		})
		all, e := Reduced(n)
		want(t, "reduced squares", []any{all, e}, []any{extending(begun), api.OK})
		want(t, "number of reduced squares", len(all), counts[n])
		wantApart(t, "reduced squares", all)
	}
	for n := 6; n <= 16; n++ {
		all, e := Reduced(n)
		want(t, "an order that is too large", []any{len(all), e}, []any{0, api.ErrLimit})
	}
	for _, n := range badOrders() {
		all, e := Reduced(n)
		want(t, "no order", []any{len(all), e}, []any{0, api.ErrRange})
	}
}
