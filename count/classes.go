package count

import (
	"iter"
	"slices"

	"talisman/api"
	"talisman/group"
	"talisman/lines"
)

// Class is a class of fillings: its least element, and how many it has.
type Class struct {
	Filling []int
	Size    int
}

// Key returns a list that no symmetry of the system changes.
func Key(s api.System, f []int) ([]int, api.Errno) {
	if _, e := lines.Sums(s, f); e != api.OK {
		return nil, e
	}
	if isNormal, _ := lines.IsNormal(f); !isNormal {
		return nil, api.ErrForm
	}
	up := make([]int, s.Cells)
	for cell, degree := range degreesOf(s) {
		up[f[cell]-1] = degree
	}
	down := slices.Clone(up)
	slices.Reverse(down)
	if slices.Compare(down, up) < 0 {
		return down, api.OK
	}
	return up, api.OK
}

// Classes returns the classes of a list of fillings.
func Classes(group []api.Symmetry, list [][]int) ([]Class, api.Errno) {
	found, e := classesOf(group, list)
	if e != api.OK {
		return nil, e
	}
	var classes []Class
	for _, class := range found {
		classes = append(classes, Class{Filling: slices.Clone(class[0]), Size: len(class)})
	}
	return classes, api.OK
}

// Fixed returns how many fillings each symmetry maps to themselves.
func Fixed(group []api.Symmetry, list [][]int) ([]int, api.Errno) {
	if _, e := classesOf(group, list); e != api.OK {
		return nil, e
	}
	fixed := make([]int, len(group))
	for i, a := range group {
		for _, f := range list {
			if slices.Equal(imageOf(a, f), f) {
				fixed[i]++
			}
		}
	}
	return fixed, api.OK
}

// ClassCount returns the number of classes.
func ClassCount(group []api.Symmetry, list [][]int) (int, api.Errno) {
	classes, e := classesOf(group, list)
	return len(classes), e
}

// classesOf returns the classes of a list, or the first error of a group and a list.
func classesOf(l []api.Symmetry, list [][]int) ([][][]int, api.Errno) {
	cells := 0
	if len(l) > 0 {
		cells = len(l[0].Cells)
	}
	if e := first(group.CheckGroup(l, cells), checkList(list, cells)); e != api.OK {
		return nil, e
	}
	images := func(f []int) iter.Seq[[]int] {
		return func(yield func([]int) bool) {
			for _, a := range l {
				if !yield(imageOf(a, f)) {
					return
				}
			}
		}
	}
	return collect(list, slices.Compare[[]int], images)
}

// checkList returns the error of a list of fillings that are to ascend.
func checkList(list [][]int, cells int) api.Errno {
	if len(list) > MaxFound {
		return api.ErrMany
	}
	for i, f := range list {
		if len(f) != cells {
			return api.ErrShape
		}
		for _, x := range f {
			if e := within(-api.MaxNumber, api.MaxNumber, x); e != api.OK {
				return e
			}
		}
		if i > 0 && slices.Compare(list[i-1], f) >= 0 {
			return api.ErrOrder
		}
	}
	return api.OK
}

// imageOf returns the image of a filling, and nothing if it has a number out of
// the range of fillings: such an image is in no list.
func imageOf(a api.Symmetry, f []int) []int {
	image, _ := group.Apply(a, f)
	return image
}

// collect returns the classes of an ascending list, each one with its least
// element first, or ErrNone if an image of an element is not in the list. A class
// has all images of each of its elements.
func collect[T any](list []T, compare func(a, b T) int, images func(x T) iter.Seq[T]) ([][]T, api.Errno) {
	var classes [][]T
	seen := make([]bool, len(list))
	for i, x := range list {
		if seen[i] {
			continue
		}
		seen[i] = true
		class := []T{x}
		for image := range images(x) {
			k, found := slices.BinarySearchFunc(list, image, compare)
			if !found {
				return nil, api.ErrNone
			}
			if !seen[k] {
				seen[k] = true
				class = append(class, list[k])
			}
		}
		classes = append(classes, class)
	}
	return classes, api.OK
}
