package cone

import (
	"cmp"
)

// The sides on which a vector is by its number in a cell.
const (
	below = iota
	level
	above
)

// side returns the side of a number.
func side(x int) int {
	return cmp.Compare(x, 0) + level
}

// completion finds, on both sides of a cell, the vectors that are not sums of
// two others on the same side. Its cells are those in which all vectors have
// numbers of at least 0. The sum of these, the degree of a vector, is not less
// for a sum than for its parts: so vectors are looked at in the order of their
// degrees, and those that are found then stay.
type completion struct {
	cells   []int
	cell    int
	sides   [3][]vector
	waiting map[int][]vector // by their degrees
}

// offer lets a vector wait until it is looked at, if there is a need to.
func (c *completion) offer(v vector) {
	if c.isCovered(&v) {
		return
	}
	degree := 0
	for _, cell := range c.cells {
		degree += v[cell]
	}
	c.waiting[degree] = append(c.waiting[degree], v)
}

// isCovered reports whether a vector has only 0 in the cells, or is the sum of
// two on its side, one of which was found.
func (c *completion) isCovered(v *vector) bool {
	if c.isPart(v, &vector{}) {
		return true
	}
	found := c.sides[side(v[c.cell])]
	for i := range found {
		if c.isPart(&found[i], v) {
			return true
		}
	}
	return false
}

// isPart reports whether what v has more than another vector has no number
// below 0 in the cells, and neither of both is on the other side than v.
func (c *completion) isPart(part, v *vector) bool {
	low, high := min(v[c.cell], 0), max(v[c.cell], 0)
	if part[c.cell] < low || part[c.cell] > high {
		return false
	}
	for _, cell := range c.cells {
		if part[cell] > v[cell] {
			return false
		}
	}
	return true
}

// run looks at all vectors that wait, and at the sums that this leads to.
func (c *completion) run() {
	for degree := 0; len(c.waiting) > 0; degree++ {
		for len(c.waiting[degree]) > 0 {
			last := len(c.waiting[degree]) - 1
			v := c.waiting[degree][last]
			c.waiting[degree] = c.waiting[degree][:last]
			if !c.isCovered(&v) {
				c.take(v)
			}
		}
		delete(c.waiting, degree)
	}
}

// take adds a vector to those that were found, and offers its sums with those
// on the other side.
func (c *completion) take(v vector) {
	at := side(v[c.cell])
	c.sides[at] = append(c.sides[at], v)
	if at == level {
		return
	}
	for _, other := range c.sides[above-at] {
		c.offer(v.plus(1, other))
	}
}
