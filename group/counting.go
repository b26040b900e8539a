package group

import (
	"talisman/algebra"
	"talisman/api"
)

// Burnside returns the number of fillings with some values up to symmetry.
func Burnside(l []api.Symmetry, cells, values int) (api.Rat, api.Errno) {
	g, e := groupOf(l, cells)
	if e = first(e, within(0, api.MaxNumber, values)); e != api.OK {
		return "", e
	}
	counts := make([]int, cells+1) // of the symmetries for each number of free cells
	for _, a := range g {
		if free, some := a.freeCells(values); some {
			counts[free]++
		}
	}
	// The number is a polynomial in values, divided by the number of symmetries.
	// What this division leaves over is carried along, so that no number on the
	// way is greater than the result.
	orbits, rest := api.Rat("0"), 0
	for k := cells; k >= 0; k-- {
		rest = rest*values + counts[k]
		orbits, e = timesPlus(orbits, values, rest/len(g))
		if e != api.OK {
			return "", e
		}
		rest %= len(g)
	}
	return orbits, api.OK
}

// freeCells returns the number of cells whose values can be chosen freely in the
// lists that a symmetry leaves as they are, if there are such lists.
func (a symmetry) freeCells(values int) (free int, some bool) {
	for _, n := range a.cycleLengths() {
		switch {
		case !a.Complement || n%2 == 0:
			free++
		case values%2 == 0: // a value would be its own complement
			return 0, false
		}
	}
	return free, true
}

// timesPlus returns a number times a factor, and a summand.
func timesPlus(a api.Rat, factor, summand int) (api.Rat, api.Errno) {
	x, _ := algebra.Of(factor, 1)
	y, _ := algebra.Of(summand, 1)
	product, e := algebra.Mul(a, x)
	if e != api.OK {
		return "", e
	}
	return algebra.Add(product, y)
}

// Cosets returns the least element of each coset of a subgroup.
func Cosets(l, h []api.Symmetry, cells int) ([]api.Symmetry, api.Errno) {
	g, sub, e := groupWithSubgroup(l, h, cells)
	if e != api.OK {
		return nil, e
	}
	least, _ := cosetsOf(g, sub)
	return results(least...), api.OK
}

// IsNormal reports whether a subgroup is normal.
func IsNormal(l, h []api.Symmetry, cells int) (bool, api.Errno) {
	g, sub, e := groupWithSubgroup(l, h, cells)
	if e != api.OK {
		return false, e
	}
	// It is normal if the cosets stay the same when the compositions are made the
	// other way round.
	least, coset := cosetsOf(g, sub)
	for number, a := range least {
		for _, b := range sub {
			if coset[b.after(a).text()] != number {
				return false, api.OK
			}
		}
	}
	return true, api.OK
}

// groupWithSubgroup returns the symmetries of a group and of a subgroup of it,
// or the first error of both.
func groupWithSubgroup(l, h []api.Symmetry, cells int) (g, sub []symmetry, e api.Errno) {
	if g, e = groupOf(l, cells); e != api.OK {
		return nil, nil, e
	}
	if sub, e = groupOf(h, cells); e != api.OK {
		return nil, nil, e
	}
	inGroup := textsOf(g)
	for _, b := range sub {
		if !inGroup[b.text()] {
			return nil, nil, api.ErrConflict
		}
	}
	return g, sub, api.OK
}

// cosetsOf returns the least elements of the cosets of a subgroup, in ascending
// order, and for the text of each element of the group the number of its coset.
func cosetsOf(g, sub []symmetry) (least []symmetry, coset map[string]int) {
	coset = map[string]int{}
	for _, a := range g {
		if _, found := coset[a.text()]; found {
			continue
		}
		for _, b := range sub {
			coset[a.after(b).text()] = len(least)
		}
		least = append(least, a)
	}
	return least, coset
}
