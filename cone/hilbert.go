package cone

import (
	"cmp"
	"slices"

	"talisman/api"
)

// IsIrreducible reports whether a filling is no sum of two others.
func IsIrreducible(s api.System, f []int) (bool, api.Errno) {
	if e := checkSmall(s, f); e != api.OK {
		return false, e
	}
	isSame := func(h []int) bool { return slices.Equal(h, f) }
	return slices.ContainsFunc(irreducibles(s), isSame), api.OK
}

// Split returns the first part of a filling that is one itself. The first one
// is irreducible: its own parts would come before it.
func Split(s api.System, f []int) ([]int, api.Errno) {
	if e := checkSmall(s, f); e != api.OK {
		return nil, e
	}
	for _, h := range irreducibles(s) {
		if timesIn(f, h) > 0 && !slices.Equal(h, f) {
			return h, api.OK
		}
	}
	return nil, api.ErrNone
}

// Hilbert returns all irreducible fillings.
func Hilbert(s api.System) ([][]int, api.Errno) {
	if e := CheckCone(s); e != api.OK {
		return nil, e
	}
	return smallBasis(s)
}

// smallBasis returns the Hilbert basis if it is not too large.
func smallBasis(s api.System) ([][]int, api.Errno) {
	basis := irreducibles(s)
	if e := atMost(api.MaxBasis, len(basis), api.ErrMany); e != api.OK {
		return nil, e
	}
	return basis, api.OK
}

// Decompose returns how often each irreducible filling is in a sum. What is
// left behind those that were taken as often as possible has none of them as a
// part, so that it is a sum of those that follow.
func Decompose(s api.System, f []int) ([]int, api.Errno) {
	if e := checkSmall(s, f); e != api.OK {
		return nil, e
	}
	basis, e := smallBasis(s)
	if e != api.OK {
		return nil, e
	}
	times := make([]int, len(basis))
	rest := slices.Clone(f)
	for k, h := range basis {
		times[k] = timesIn(rest, h)
		for cell, x := range h {
			rest[cell] -= times[k] * x
		}
	}
	return times, api.OK
}

// timesIn returns how often a filling other than 0 can be taken from another one.
func timesIn(f, h []int) int {
	times := api.MaxNumber
	for cell, x := range h {
		if x > 0 {
			times = min(times, f[cell]/x)
		}
	}
	return times
}

// CheckSum returns OK for numbers with which irreducible fillings add up to a filling.
func CheckSum(s api.System, f, times []int) api.Errno {
	if e := checkFilling(s, f); e != api.OK {
		return e
	}
	basis, e := smallBasis(s)
	if e != api.OK {
		return e
	}
	if len(times) != len(basis) {
		return api.ErrShape
	}
	if e := allWithin(0, api.MaxNumber, times); e != api.OK {
		return e
	}
	total := make([]int, s.Cells)
	for k, h := range basis {
		for cell, x := range h {
			total[cell] += times[k] * x
		}
	}
	if !slices.Equal(total, f) {
		return api.ErrProof
	}
	return api.OK
}

// vector is a list of integers with equal sums on the lines, also negative
// ones, with 0 behind the last cell.
type vector [mostCells]int

// plus returns the sum of a vector and a multiple of another one.
func (v vector) plus(factor int, other vector) vector {
	for cell, x := range other {
		v[cell] += factor * x
	}
	return v
}

// irreducibles returns the Hilbert basis in ascending lexicographic order. It
// begins with all vectors, and asks of one cell after another that its number
// is at least 0.
func irreducibles(s api.System) [][]int {
	p := part{free: lattice(s)}
	for len(p.cells) < s.Cells {
		p = p.bound(p.nextCell(s.Cells))
	}
	basis := make([][]int, len(p.elements))
	for i, v := range p.elements {
		basis[i] = slices.Clone(v[:s.Cells])
	}
	slices.SortFunc(basis, slices.Compare[[]int])
	return basis
}

// lattice returns a basis of all vectors: each one is a sum of those of the
// basis with integers as factors, in just one way.
func lattice(s api.System) []vector {
	free := make([]vector, s.Cells)
	for cell := range free {
		free[cell][cell] = 1
	}
	for _, line := range s.Lines[1:] {
		difference := func(v vector) int {
			sum := 0
			for _, cell := range line {
				sum += v[cell]
			}
			return sum - sumOf(s, v[:])
		}
		free, _, _ = separate(free, difference)
	}
	return free
}

// separate turns vectors into others that have the same sums with integers as
// factors, such that at most one of them has a value other than 0, and that
// one a value above 0. It returns the others, and this one if it is there. The
// values of sums are the sums of values.
func separate(vectors []vector, value func(vector) int) (others []vector, one vector, found bool) {
	vectors = slices.Clone(vectors)
	size := func(v vector) int { return max(value(v), -value(v)) }
	for {
		at, rest := -1, 0
		for i, v := range vectors {
			if size(v) == 0 {
				continue
			}
			rest++
			if at < 0 || size(v) < size(vectors[at]) {
				at = i
			}
		}
		if rest == 0 {
			return vectors, vector{}, false
		}
		one = vectors[at]
		if rest == 1 {
			return slices.Delete(vectors, at, at+1), vector{}.plus(cmp.Compare(value(one), 0), one), true
		}
		for i, v := range vectors {
			if i != at {
				vectors[i] = v.plus(-(value(v) / value(one)), one)
			}
		}
	}
}

// part consists of the vectors that have in some cells numbers of at least 0.
// They are the sums of its elements, and of the free vectors with factors of
// any sign: these have 0 in these cells. An element is not the sum of two such
// vectors, if they are not told apart by what they have in the other cells.
type part struct {
	cells    []int
	elements []vector
	free     []vector
}

// nextCell returns the cell for which the fewest pairs of elements with
// numbers of different signs are to be added.
func (p part) nextCell(cells int) int {
	best, least := -1, 0
	for cell := range cells {
		if slices.Contains(p.cells, cell) {
			continue
		}
		var signs [3]int
		for _, v := range p.elements {
			signs[side(v[cell])]++
		}
		if pairs := (signs[below] + 1) * (signs[above] + 1); best < 0 || pairs < least {
			best, least = cell, pairs
		}
	}
	return best
}

// bound returns the vectors of a part that have a number of at least 0 in one
// more cell.
func (p part) bound(cell int) part {
	free, one, found := separate(p.free, func(v vector) int { return v[cell] })
	c := completion{cells: p.cells, cell: cell, waiting: map[int][]vector{}}
	for _, v := range p.elements {
		if found { // then its number is nearer to 0 than that of one
			v = v.plus(-(v[cell] / one[cell]), one)
		}
		c.offer(v)
	}
	if found {
		c.offer(one)
		c.offer(vector{}.plus(-1, one))
	}
	c.run()
	return part{append(slices.Clip(p.cells), cell), slices.Concat(c.sides[level], c.sides[above]), free}
}
