package cone

import (
	"iter"
	"slices"

	"talisman/api"
)

// IsRay reports whether a filling is an extreme ray.
func IsRay(s api.System, f []int) (bool, api.Errno) {
	if e := checkFilling(s, f); e != api.OK {
		return false, e
	}
	ray, isRay := rayWith(s, supportOf(f))
	return isRay && slices.Equal(ray, f), api.OK
}

// Rays returns all extreme rays.
func Rays(s api.System) ([][]int, api.Errno) {
	if e := CheckCone(s); e != api.OK {
		return nil, e
	}
	list := slices.SortedFunc(rays(s), slices.Compare[[]int])
	if e := atMost(api.MaxBasis, len(list), api.ErrMany); e != api.OK {
		return nil, e
	}
	return list, api.OK
}

// Dimension returns the number of linearly independent fillings.
func Dimension(s api.System) (int, api.Errno) {
	if e := CheckCone(s); e != api.OK {
		return 0, e
	}
	// Each filling is a sum of rays with factors.
	return len(eliminate(slices.Collect(rays(s)), s.Cells)), api.OK
}

// support is a set of cells, those in which a filling does not have 0: the
// cell i is in it if the bit i is set.
type support uint16

func supportOf(f []int) support {
	var cells support
	for cell, x := range f {
		if x != 0 {
			cells |= 1 << cell
		}
	}
	return cells
}

// has reports whether all cells of another support are in this one.
func (cells support) has(others support) bool {
	return others&^cells == 0
}

// rays gives out the rays. Of their supports none has all cells of another one,
// and the numbers of supports with more cells are greater.
func rays(s api.System) iter.Seq[[]int] {
	return func(yield func([]int) bool) {
		var found []support
		for cells := support(1); cells < 1<<s.Cells; cells++ {
			if slices.ContainsFunc(found, cells.has) {
				continue
			}
			ray, isRay := rayWith(s, cells)
			if !isRay {
				continue
			}
			found = append(found, cells)
			if !yield(ray) {
				return
			}
		}
	}
}

// rayWith returns the ray with a support, if there is one: the fillings with 0
// in the other cells are the multiples of a single one, whose numbers in the
// cells of the support are above 0.
func rayWith(s api.System, cells support) ([]int, bool) {
	var places []int
	for cell := range s.Cells {
		if cells.has(1 << cell) {
			places = append(places, cell)
		}
	}
	rows := incidence(s, places)
	for k := range rows {
		rows[k] = append(rows[k], 1) // each line has the sum once
	}
	solution, isOnly := solve(rows)
	if !isOnly {
		return nil, false
	}
	ray := make([]int, s.Cells)
	for i, cell := range places {
		if solution[i] <= 0 {
			return nil, false
		}
		ray[cell] = solution[i]
	}
	return ray, true
}
