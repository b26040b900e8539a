package group

import (
	"iter"
	"slices"

	"talisman/api"
)

// CheckGroup returns the first error of a group, or OK.
func CheckGroup(l []api.Symmetry, cells int) api.Errno {
	_, e := groupOf(l, cells)
	return e
}

// Closure returns the least group that contains some symmetries.
func Closure(l []api.Symmetry, cells int) ([]api.Symmetry, api.Errno) {
	if e := checkSymmetries(l, cells, api.MaxList); e != api.OK {
		return nil, e
	}
	var found []symmetry
	for a := range generated(symmetriesOf(l), cells) {
		if len(found) == api.MaxGroup {
			return nil, api.ErrLimit
		}
		found = append(found, a)
	}
	slices.SortFunc(found, symmetry.compare)
	return results(found...), api.OK
}

// checkSymmetries returns the first error of a list of symmetries, at most so many.
func checkSymmetries(l []api.Symmetry, cells, most int) api.Errno {
	if e := first(within(0, api.MaxCells, cells), atMost(most, len(l))); e != api.OK {
		return e
	}
	for _, a := range l {
		if e := CheckSymmetry(a, cells); e != api.OK {
			return e
		}
	}
	return api.OK
}

// groupOf returns the symmetries of a group, or its first error.
func groupOf(l []api.Symmetry, cells int) ([]symmetry, api.Errno) {
	if e := checkSymmetries(l, cells, api.MaxGroup); e != api.OK {
		return nil, e
	}
	if len(l) == 0 {
		return nil, api.ErrEmpty
	}
	g := symmetriesOf(l)
	for k, a := range g {
		if k > 0 && g[k-1].compare(a) >= 0 {
			return nil, api.ErrOrder
		}
	}
	inGroup := textsOf(g)
	for a := range generated(g, cells) {
		if !inGroup[a.text()] {
			return nil, api.ErrConflict
		}
	}
	return g, api.OK
}

// generated gives out the elements of the least group that contains some
// symmetries, each one once.
func generated(l []symmetry, cells int) iter.Seq[symmetry] {
	return func(yield func(symmetry) bool) {
		elements := []symmetry{identity(cells)}
		if !yield(elements[0]) {
			return
		}
		known := textsOf(elements)
		var generators []symmetry
		for _, a := range l {
			// A symmetry that is an element already makes no further ones. So there
			// are few generators: each one makes the group at least twice as large.
			if known[a.text()] {
				continue
			}
			generators = append(generators, a)
			for k := 0; k < len(elements); k++ {
				for _, b := range generators {
					c := b.after(elements[k])
					text := c.text()
					if known[text] {
						continue
					}
					known[text] = true
					elements = append(elements, c)
					if !yield(c) {
						return
					}
				}
			}
		}
	}
}

// symmetriesOf returns symmetries without an error, whose cells are those of l.
func symmetriesOf(l []api.Symmetry) []symmetry {
	var list []symmetry
	for _, a := range l {
		list = append(list, symmetry(a))
	}
	return list
}

// results returns symmetries as results, with cells of their own.
func results(list ...symmetry) []api.Symmetry {
	var l []api.Symmetry
	for _, a := range list {
		l = append(l, api.Symmetry{Cells: slices.Clone(a.Cells), Complement: a.Complement})
	}
	return l
}

// textsOf returns the set of the texts of symmetries.
func textsOf(list []symmetry) map[string]bool {
	texts := map[string]bool{}
	for _, a := range list {
		texts[a.text()] = true
	}
	return texts
}
