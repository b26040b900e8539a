package latin

import (
	"slices"

	"talisman/api"
)

// The limits of a list of sets.
const (
	maxSets     = 32
	maxElements = 64
)

// Represent returns the least system of different representatives.
func Represent(sets [][]int) ([]int, api.Errno) {
	if e := checkSets(sets); e != api.OK {
		return nil, e
	}
	system, violation := represent(sets)
	if violation != nil {
		return nil, api.ErrInfeasible
	}
	return system, api.OK
}

// Hall returns sets that have fewer elements than they are.
func Hall(sets [][]int) ([]int, api.Errno) {
	if e := checkSets(sets); e != api.OK {
		return nil, e
	}
	_, violation := represent(sets)
	if violation == nil {
		return nil, api.ErrNone
	}
	return violation, api.OK
}

// CheckHall returns OK for sets that have fewer elements than they are.
func CheckHall(sets [][]int, chosen []int) api.Errno {
	if e := checkSets(sets); e != api.OK {
		return e
	}
	elements := map[int]bool{}
	for i, number := range chosen {
		if !isWithin(0, len(sets)-1, number) {
			return api.ErrUnknown
		}
		if i > 0 && number <= chosen[i-1] {
			return api.ErrOrder
		}
		for _, x := range sets[number] {
			elements[x] = true
		}
	}
	if len(elements) >= len(chosen) {
		return api.ErrProof
	}
	return api.OK
}

// checkSets returns the error of sets.
func checkSets(sets [][]int) api.Errno {
	if len(sets) > maxSets {
		return api.ErrMany
	}
	for _, set := range sets {
		if e := checkSet(set); e != api.OK {
			return e
		}
	}
	return api.OK
}

func checkSet(set []int) api.Errno {
	if len(set) > maxElements {
		return api.ErrMany
	}
	if !isWithin(0, api.MaxNumber, set...) {
		return api.ErrRange
	}
	for i := 1; i < len(set); i++ {
		if set[i] <= set[i-1] {
			return api.ErrOrder
		}
	}
	return api.OK
}

// represent returns the least system of representatives, or a violation.
func represent(sets [][]int) (system, violation []int) {
	allowed := slices.Clone(sets) // the elements that each set may take
	system = make([]int, len(sets))
	holders := map[int]int{} // the set that an element represents
	visited := make([]bool, len(sets))
	// place finds an element for a set. One that another set has is good enough
	// if this one finds a different one; no set is asked twice.
	var place func(set int) bool
	place = func(set int) bool {
		visited[set] = true
		for _, x := range allowed[set] {
			holder, isHeld := holders[x]
			if !isHeld || !visited[holder] && place(holder) {
				holders[x], system[set] = set, x
				return true
			}
		}
		return false
	}
	for set := range sets {
		clear(visited)
		if !place(set) {
			// The sets that were visited have the elements of all of them but one.
			return nil, placesOf(visited)
		}
	}
lowering:
	for set, elements := range sets {
		delete(holders, system[set])
		for _, x := range elements {
			clear(visited)
			allowed[set] = []int{x}
			if place(set) {
				continue lowering // for good: no later set takes the only element
			}
		}
	}
	return system, nil
}

// placesOf returns the places in which a list has true.
func placesOf(list []bool) []int {
	var places []int
	for i, is := range list {
		if is {
			places = append(places, i)
		}
	}
	return places
}

// Extend returns a latin rectangle with one more row.
func Extend(r api.Grid) (api.Grid, api.Errno) {
	if e := checkRectangle(r); e != api.OK {
		return api.Grid{}, e
	}
	if r.Rows == r.Cols {
		return api.Grid{}, api.ErrNone
	}
	p, _ := partialOf(r)
	var sets [][]int
	for _, left := range p.left[columnFamily][:r.Cols] {
		sets = append(sets, slices.Collect(left.each()))
	}
	// There is no violation: each column lacks as many symbols as each symbol is
	// lacking in columns.
	row, _ := represent(sets)
	return api.Grid{Rows: r.Rows + 1, Cols: r.Cols, Cells: slices.Concat(r.Cells, row)}, api.OK
}

// checkRectangle returns the error of a latin rectangle.
func checkRectangle(r api.Grid) api.Errno {
	if !isWithin(1, api.MaxOrder, r.Cols) || !isWithin(0, r.Cols, r.Rows) || len(r.Cells) != r.Rows*r.Cols {
		return api.ErrShape
	}
	return checkSymbols(r, 0)
}
