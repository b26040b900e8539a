package latin

import (
	"iter"
	"slices"

	"talisman/api"
)

// open is what a cell without a symbol has.
const open = -1

// The greatest order and number of open cells that Complete takes on.
const (
	maxCompleted = 7
	maxOpen      = 25
)

// The greatest orders for which Mate and Reduced search.
const (
	maxMated   = 5
	maxReduced = 5
)

// Complete returns the first completions of a partial latin square.
func Complete(p api.Grid, limit int) ([]api.Grid, api.Errno) {
	if e := checkPartial(p); e != api.OK {
		return nil, e
	}
	if !isWithin(1, api.MaxList, limit) {
		return nil, api.ErrRange
	}
	if p.Rows > maxCompleted || numberOfOpen(p) > maxOpen {
		return nil, api.ErrLimit
	}
	var found []api.Grid
	for l := range completions(p) {
		found = append(found, l)
		if len(found) == limit {
			break
		}
	}
	if len(found) == 0 {
		return nil, api.ErrInfeasible
	}
	return found, api.OK
}

// Mate returns the least orthogonal mate.
func Mate(l api.Grid) (api.Grid, api.Errno) {
	q, e := squareOf(l)
	if e != api.OK {
		return api.Grid{}, e
	}
	n := len(q)
	if n > maxMated {
		return api.Grid{}, api.ErrLimit
	}
	// A mate whose symbols are exchanged is one, too: the first row of the least
	// one is in ascending order.
	begun := gridOf(n, n, func(i, j int) int {
		if i == 0 {
			return j
		}
		return open
	})
	for mate := range completions(begun, l.Cells) {
		return mate, api.OK
	}
	return api.Grid{}, api.ErrNone
}

// Reduced returns all reduced latin squares of an order.
func Reduced(n int) ([]api.Grid, api.Errno) {
	if e := checkOrder(n); e != api.OK {
		return nil, e
	}
	if n > maxReduced {
		return nil, api.ErrLimit
	}
	begun := gridOf(n, n, func(i, j int) int {
		if i == 0 || j == 0 {
			return i + j
		}
		return open
	})
	return slices.Collect(completions(begun)), api.OK
}

// checkPartial returns the error of a partial latin square.
func checkPartial(p api.Grid) api.Errno {
	if !isSquare(p) {
		return api.ErrShape
	}
	return checkSymbols(p, open)
}

func numberOfOpen(p api.Grid) int {
	count := 0
	for _, x := range p.Cells {
		if x == open {
			count++
		}
	}
	return count
}

// completions gives out the completions of a partial latin square in ascending
// order: those with different symbols on the lines of further families, too,
// where the symbols that are given are different.
func completions(g api.Grid, further ...[]int) iter.Seq[api.Grid] {
	return func(yield func(api.Grid) bool) {
		p, _ := partialOf(g, further...)
		var visit func(cell int) bool
		visit = func(cell int) bool {
			if cell == len(p.cells) {
				return yield(api.Grid{Rows: g.Rows, Cols: g.Cols, Cells: slices.Clone(p.cells)})
			}
			if p.cells[cell] != open {
				return visit(cell + 1)
			}
			for x := range p.leftFor(cell).each() {
				p.put(cell, x)
				goesOn := visit(cell + 1)
				p.takeBack(cell)
				if !goesOn {
					return false
				}
			}
			return true
		}
		visit(0)
	}
}

// partial is a grid into which symbols are put. Its lines are in families: a
// family has for each cell the number of its line that the cell is on. Left are
// the symbols that no cell of a line has, for each line of each family.
type partial struct {
	cells    []int
	families [][]int
	left     [3][api.MaxOrder]numberSet
}

// The families that each grid has.
const (
	rowFamily = iota
	columnFamily
)

// partialOf puts the symbols of a grid on its cells. It does not fit if one of
// them is twice on a line: a row, a column, or a line of a further family.
func partialOf(g api.Grid, further ...[]int) (p partial, fits bool) {
	rows := gridOf(g.Rows, g.Cols, func(i, j int) int { return i })
	columns := gridOf(g.Rows, g.Cols, func(i, j int) int { return j })
	p.cells = slices.Repeat([]int{open}, len(g.Cells))
	p.families = append([][]int{rowFamily: rows.Cells, columnFamily: columns.Cells}, further...)
	for k := range p.left {
		for line := range p.left[k] {
			p.left[k][line] = allBelow(g.Cols)
		}
	}
	for cell, x := range g.Cells {
		if x == open {
			continue
		}
		if !p.leftFor(cell).has(x) {
			return partial{}, false
		}
		p.put(cell, x)
	}
	return p, true
}

// leftFor returns the symbols that are left for all lines of a cell.
func (p *partial) leftFor(cell int) numberSet {
	left := ^numberSet(0)
	for k, family := range p.families {
		left &= p.left[k][family[cell]]
	}
	return left
}

// put puts a symbol, which is left for it, on an open cell.
func (p *partial) put(cell, x int) {
	p.cells[cell] = x
	for k, family := range p.families {
		line := &p.left[k][family[cell]]
		*line = line.without(x)
	}
}

// takeBack makes a cell open again.
func (p *partial) takeBack(cell int) {
	for k, family := range p.families {
		line := &p.left[k][family[cell]]
		*line = line.with(p.cells[cell])
	}
	p.cells[cell] = open
}
