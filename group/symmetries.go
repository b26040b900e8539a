package group

import (
	"strings"

	"talisman/algebra"
	"talisman/api"
)

// CheckSymmetry returns the first error of a symmetry, or OK.
func CheckSymmetry(a api.Symmetry, cells int) api.Errno {
	if e := within(0, api.MaxCells, cells); e != api.OK {
		return e
	}
	if len(a.Cells) != cells {
		return api.ErrShape
	}
	return algebra.CheckPerm(a.Cells)
}

// Apply returns the image of a filling.
func Apply(a api.Symmetry, f []int) ([]int, api.Errno) {
	if e := first(checkFilling(f), CheckSymmetry(a, len(f))); e != api.OK {
		return nil, e
	}
	image := symmetry(a).image(f)
	if e := checkFilling(image); e != api.OK {
		return nil, e
	}
	return image, api.OK
}

// Compose returns the symmetry that is first b, and then a.
func Compose(a, b api.Symmetry) (api.Symmetry, api.Errno) {
	cells := len(a.Cells)
	if e := first(CheckSymmetry(a, cells), CheckSymmetry(b, cells)); e != api.OK {
		return api.Symmetry{}, e
	}
	return api.Symmetry(symmetry(a).after(symmetry(b))), api.OK
}

// Invert returns the inverse symmetry.
func Invert(a api.Symmetry) (api.Symmetry, api.Errno) {
	if e := CheckSymmetry(a, len(a.Cells)); e != api.OK {
		return api.Symmetry{}, e
	}
	cells, _ := algebra.Invert(a.Cells)
	return api.Symmetry{Cells: cells, Complement: a.Complement}, api.OK
}

// Order returns how often a symmetry has to follow itself to change nothing.
func Order(a api.Symmetry) (int, api.Errno) {
	if e := CheckSymmetry(a, len(a.Cells)); e != api.OK {
		return 0, e
	}
	order := 1
	if a.Complement {
		order = 2
	}
	for _, n := range symmetry(a).cycleLengths() {
		// The remainder has the same divisor in common with n, and is within the
		// range of Gcd, which the order may leave.
		shared, _ := algebra.Gcd(order%n, n)
		order *= n / shared
	}
	return order, api.OK
}

// symmetry is a symmetry without an error.
type symmetry api.Symmetry

// identity returns the symmetry that changes nothing.
func identity(cells int) symmetry {
	a := symmetry{Cells: make([]int, cells)}
	for i := range a.Cells {
		a.Cells[i] = i
	}
	return a
}

// text returns a text that only equal symmetries of as many cells share; the
// texts have the order of the symmetries.
func (a symmetry) text() string {
	if a.Complement {
		return textOf(a.Cells) + "c"
	}
	return textOf(a.Cells)
}

// compare tells the order of symmetries of as many cells.
func (a symmetry) compare(b symmetry) int {
	return strings.Compare(a.text(), b.text())
}

// after returns the composition: first b, and then a.
func (a symmetry) after(b symmetry) symmetry {
	cells, _ := algebra.Compose(a.Cells, b.Cells)
	return symmetry{Cells: cells, Complement: a.Complement != b.Complement}
}

// image returns the image of a filling.
func (a symmetry) image(f []int) []int {
	image := make([]int, len(f))
	for i, x := range f {
		if a.Complement {
			x = len(f) + 1 - x
		}
		image[a.Cells[i]] = x
	}
	return image
}

// cycleLengths returns the numbers of cells of the cycles.
func (a symmetry) cycleLengths() []int {
	cycles, _ := algebra.Cycles(a.Cells)
	var lengths []int
	for _, cycle := range cycles {
		lengths = append(lengths, len(cycle))
	}
	return lengths
}
