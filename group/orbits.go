package group

import (
	"iter"
	"slices"

	"talisman/api"
)

// Orbit returns all images of a filling.
func Orbit(l []api.Symmetry, f []int) ([][]int, api.Errno) {
	list, e := imagesOf(l, f)
	if e != api.OK {
		return nil, e
	}
	slices.SortFunc(list, slices.Compare)
	return slices.CompactFunc(list, slices.Equal), api.OK
}

// Stabilizer returns the symmetries that leave a filling as it is.
func Stabilizer(l []api.Symmetry, f []int) ([]api.Symmetry, api.Errno) {
	g, e := groupFor(l, f)
	if e != api.OK {
		return nil, e
	}
	var found []symmetry
	for a, image := range images(g, f) {
		if slices.Equal(image, f) {
			found = append(found, a)
		}
	}
	return results(found...), api.OK
}

// Canonical returns the least image of a filling.
func Canonical(l []api.Symmetry, f []int) ([]int, api.Errno) {
	list, e := imagesOf(l, f)
	if e != api.OK {
		return nil, e
	}
	return slices.MinFunc(list, slices.Compare), api.OK
}

// Same returns the first symmetry by which a filling becomes another one.
func Same(l []api.Symmetry, f, g []int) (api.Symmetry, api.Errno) {
	if e := first(checkFilling(f), checkFilling(g)); e != api.OK {
		return api.Symmetry{}, e
	}
	if len(f) != len(g) {
		return api.Symmetry{}, api.ErrShape
	}
	elements, e := groupOf(l, len(f))
	if e != api.OK {
		return api.Symmetry{}, e
	}
	for a, image := range images(elements, f) {
		if slices.Equal(image, g) {
			return results(a)[0], api.OK
		}
	}
	return api.Symmetry{}, api.ErrNone
}

// CellOrbits returns the orbits of cells.
func CellOrbits(l []api.Symmetry, cells int) ([][]int, api.Errno) {
	g, e := groupOf(l, cells)
	if e != api.OK {
		return nil, e
	}
	var orbits [][]int
	seen := make([]bool, cells)
	for cell := range cells {
		if seen[cell] {
			continue
		}
		var orbit []int
		for _, a := range g {
			orbit = append(orbit, a.Cells[cell])
			seen[a.Cells[cell]] = true
		}
		slices.Sort(orbit)
		orbits = append(orbits, slices.Compact(orbit))
	}
	return orbits, api.OK
}

// groupFor returns the symmetries of a group for a filling, or the first error of both.
func groupFor(l []api.Symmetry, f []int) ([]symmetry, api.Errno) {
	if e := checkFilling(f); e != api.OK {
		return nil, e
	}
	return groupOf(l, len(f))
}

// images gives out the symmetries of a group, each one with the image of a filling.
func images(g []symmetry, f []int) iter.Seq2[symmetry, []int] {
	return func(yield func(symmetry, []int) bool) {
		for _, a := range g {
			if !yield(a, a.image(f)) {
				return
			}
		}
	}
}

// imagesOf returns the images of a filling under the symmetries of a group, or
// the first error of both and of the images.
func imagesOf(l []api.Symmetry, f []int) ([][]int, api.Errno) {
	g, e := groupFor(l, f)
	if e != api.OK {
		return nil, e
	}
	var list [][]int
	for _, image := range images(g, f) {
		if e := checkFilling(image); e != api.OK {
			return nil, e
		}
		list = append(list, image)
	}
	return list, api.OK
}
