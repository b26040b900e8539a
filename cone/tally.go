package cone

import (
	"iter"
	"slices"

	"talisman/api"
)

// rests has what is missing on each line up to its sum.
type rests [mostLines]int8

// sameRests returns the rests before the first cell.
func sameRests(s api.System, sum int) rests {
	var r rests
	for k := range s.Lines {
		r[k] = int8(sum)
	}
	return r
}

// less returns the rests behind a number on some lines.
func (r rests) less(x int, through []int) rests {
	for _, k := range through {
		r[k] -= int8(x)
	}
	return r
}

// least returns the least rest of some lines.
func (r rests) least(through []int) int {
	least := mostSum
	for _, k := range through {
		least = min(least, int(r[k]))
	}
	return least
}

// combination is a sum of lines with factors.
type combination struct {
	factors []int
	cell    int // how often it has the cell at which it ends
}

// of returns the sum of the rests with the factors.
func (c combination) of(r rests) int {
	sum := 0
	for k, factor := range c.factors {
		sum += factor * int(r[k])
	}
	return sum
}

// plan is how the fillings of a system are searched for: in which order the
// cells get numbers, and what follows for them. Lines that end at different
// cells do not tell all that follows: so do sums of lines.
type plan struct {
	order   []int
	through [][]int       // of each cell the lines through it
	ends    []combination // of each cell that which ends at it, if there is one
	empty   []combination // those without cells: the sums of their rests are 0
}

func planOf(s api.System) plan {
	p := plan{order: orderOf(s), ends: make([]combination, s.Cells)}
	for cell := range s.Cells {
		p.through = append(p.through, linesThrough(s, cell))
	}
	backwards := slices.Clone(p.order)
	slices.Reverse(backwards)
	rows := incidence(s, backwards)
	for k := range rows {
		factors := make([]int, len(rows))
		factors[k] = 1
		rows[k] = append(rows[k], factors...)
	}
	// A row begins where its combination ends, since the last cells come first.
	pivots := eliminate(rows, s.Cells)
	for i, column := range pivots {
		p.ends[backwards[column]] = combination{rows[i][s.Cells:], rows[i][column]}
	}
	for _, row := range rows[len(pivots):] {
		p.empty = append(p.empty, combination{row[s.Cells:], 0})
	}
	return p
}

// orderOf returns the cells in an order in which few of the rests on the way
// are independent of each other: it takes one cell after another such that the
// cells until then, and those from then on, have few independent lines.
func orderOf(s api.System) []int {
	var order, left []int
	for cell := range s.Cells {
		left = append(left, cell)
	}
	rank := func(cells []int) int { return len(eliminate(incidence(s, cells), len(cells))) }
	for len(left) > 0 {
		best, least := 0, 2*mostLines+1
		for i := range left {
			taken := append(slices.Clip(order), left[i])
			rest := slices.Delete(slices.Clone(left), i, i+1)
			if cost := rank(taken) + rank(rest); cost < least {
				best, least = i, cost
			}
		}
		order = append(order, left[best])
		left = slices.Delete(left, best, best+1)
	}
	return order
}

// choices gives out the numbers that a cell can have where these rests are
// left for it.
func (p plan) choices(cell int, r rests) iter.Seq[int] {
	return func(yield func(int) bool) {
		low, high := 0, r.least(p.through[cell])
		if end := p.ends[cell]; end.cell != 0 {
			total := end.of(r)
			if total%end.cell != 0 || total/end.cell < 0 {
				return
			}
			low = total / end.cell
			high = min(high, low)
		}
		for x := low; x <= high; x++ {
			if !yield(x) {
				return
			}
		}
	}
}

// layers gives out, before the first cell of the order and behind each one, in
// how many ways numbers in the cells until then leave which rests.
func (p plan) layers(start rests) iter.Seq[map[rests]int] {
	return func(yield func(map[rests]int) bool) {
		layer := map[rests]int{}
		if !p.contradicts(start) {
			layer[start] = 1
		}
		if !yield(layer) {
			return
		}
		for _, cell := range p.order {
			next := map[rests]int{}
			for r, times := range layer {
				for x := range p.choices(cell, r) {
					next[r.less(x, p.through[cell])] += times
				}
			}
			if !yield(next) {
				return
			}
			layer = next
		}
	}
}

// contradicts reports whether no filling leaves these rests before the first
// cell, since the rests of lines of which a sum has no cells do not add up to 0.
func (p plan) contradicts(start rests) bool {
	return slices.ContainsFunc(p.empty, func(c combination) bool { return c.of(start) != 0 })
}

// number returns the number of fillings.
func (p plan) number(start rests) int {
	number := 0
	for layer := range p.layers(start) {
		number = layer[rests{}]
	}
	return number
}

// fillings gives out the fillings that the layers tell of. It goes backwards
// through them, so that it never goes where no filling is. The list is changed
// afterwards.
func (p plan) fillings(layers []map[rests]int) iter.Seq[[]int] {
	return func(yield func([]int) bool) {
		f := make([]int, len(p.order))
		var search func(place int, r rests) bool
		search = func(place int, r rests) bool {
			if layers[place][r] == 0 {
				return true
			}
			if place == 0 {
				return yield(f)
			}
			cell := p.order[place-1]
			for x := range mostSum + 1 {
				f[cell] = x
				if !search(place-1, r.less(-x, p.through[cell])) {
					return false
				}
			}
			return true
		}
		search(len(p.order), rests{})
	}
}
