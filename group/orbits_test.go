package group

import (
	"math/rand"
	"slices"
	"testing"

	"talisman/api"
)

// orbitOf returns the images of a filling, each one once, in ascending order.
func orbitOf(l []api.Symmetry, f []int) [][]int {
	var all [][]int
	for _, a := range l {
		all = append(all, moved(a, f))
	}
	slices.SortFunc(all, slices.Compare)
	return slices.CompactFunc(all, slices.Equal)
}

// movers returns the symmetries of a group by which f becomes g.
func movers(l []api.Symmetry, f, g []int) []api.Symmetry {
	var found []api.Symmetry
	for _, a := range l {
		if slices.Equal(moved(a, f), g) {
			found = append(found, a)
		}
	}
	return found
}

func TestOrbitExamples(t *testing.T) { // P5.3
	d := dihedralOf(3)
	o, e := Orbit(d, loShu())
	want(t, "the number of images of L", []any{len(o), e}, []any{8, api.OK})
	want(t, "the first image of L", o[0], loShu())
	for _, f := range o {
		c, e := Canonical(d, f)
		wantList(t, "Canonical of an image of L", c, e, loShu(), api.OK)
	}
	s, e := Stabilizer(d, loShu())
	wantGroup(t, "Stabilizer of L", s, e, group(plain(upTo(9)...)), api.OK)
	s, e = Stabilizer(d, []int{1, 2, 1, 2, 3, 2, 1, 2, 1})
	wantGroup(t, "Stabilizer of an even filling", s, e, d, api.OK)
	a, e := Same(d, loShu(), []int{6, 7, 2, 1, 5, 9, 8, 3, 4})
	wantGroup(t, "Same", group(a), e, group(mirrorOf3()), api.OK)
	both := group(plain(0, 1, 2), flip(0, 1, 2))
	o, e = Orbit(both, []int{1, 2, 2})
	wantList(t, "Orbit with complements", o, e, [][]int{{1, 2, 2}, {3, 2, 2}}, api.OK)
	c, e := Canonical(both, []int{3, 2, 2})
	wantList(t, "Canonical with complements", c, e, []int{1, 2, 2}, api.OK)
	s, e = Stabilizer(both, []int{2, 2, 2})
	wantGroup(t, "Stabilizer with complements", s, e, both, api.OK)
	a, e = Same(both, []int{1, 2, 2}, []int{3, 2, 2})
	wantGroup(t, "Same with complements", group(a), e, group(flip(0, 1, 2)), api.OK)
	cells, e := CellOrbits(d, 9)
	wantList(t, "CellOrbits", cells, e, [][]int{{0, 2, 6, 8}, {1, 3, 5, 7}, {4}}, api.OK)
	cells, e = CellOrbits(dihedralOf(2), 4)
	wantList(t, "CellOrbits of the order 2", cells, e, [][]int{{0, 1, 2, 3}}, api.OK)
}

func TestNoCells(t *testing.T) { // P5.3
	for _, l := range [][]api.Symmetry{group(plain()), group(plain(), flip())} {
		o, e := Orbit(l, nil)
		want(t, "Orbit", []any{len(o), len(o[0]), e}, []any{1, 0, api.OK})
		c, e := Canonical(l, []int{})
		wantList(t, "Canonical", c, e, nil, api.OK)
		s, e := Stabilizer(l, nil)
		wantGroup(t, "Stabilizer", s, e, l, api.OK)
		a, e := Same(l, nil, []int{})
		wantGroup(t, "Same", group(a), e, group(plain()), api.OK)
		x, e := CellOrbits(l, 0)
		wantList(t, "CellOrbits", x, e, nil, api.OK)
	}
}

func TestOrbits(t *testing.T) { // P5.3
	random := rand.New(rand.NewSource(58))
	for _, g := range someGroups() {
		for _, most := range []int{1, 2, 4, g.cells, 30} {
			f := someFilling(random, g.cells, -most/2, most)
			orbit := orbitOf(g.l, f)
			o, e := Orbit(g.l, f)
			want(t, "the number of images", []any{len(o), e}, []any{len(orbit), api.OK})
			for k := range o {
				wantList(t, "an image", o[k], e, orbit[k], api.OK)
			}
			c, e := Canonical(g.l, f)
			wantList(t, "Canonical", c, e, orbit[0], api.OK)
			s, e := Stabilizer(g.l, f)
			wantGroup(t, "Stabilizer", s, e, movers(g.l, f, f), api.OK)
			image := orbit[random.Intn(len(orbit))]
			a, e := Same(g.l, f, image)
			wantGroup(t, "Same", group(a), e, movers(g.l, f, image)[:1], api.OK)
			other := someFilling(random, g.cells, -most/2, most)
			found := movers(g.l, f, other)
			a, e = Same(g.l, f, other)
			if len(found) == 0 {
				wantGroup(t, "Same of different orbits", group(a), e, group(plain()), api.ErrNone)
			} else {
				wantGroup(t, "Same of one orbit", group(a), e, found[:1], api.OK)
			}
		}
	}
}

func TestCellOrbits(t *testing.T) { // P5.3
	for _, g := range someGroups() {
		var wanted [][]int
		for cell := range g.cells {
			var orbit []int
			for other := range g.cells {
				if slices.ContainsFunc(g.l, func(a api.Symmetry) bool { return a.Cells[cell] == other }) {
					orbit = append(orbit, other)
				}
			}
			if orbit[0] == cell {
				wanted = append(wanted, orbit)
			}
		}
		x, e := CellOrbits(g.l, g.cells)
		wantList(t, "CellOrbits", x, e, wanted, api.OK)
	}
	shifts := shiftsOf(16)
	x, e := CellOrbits(shifts, 256)
	wantList(t, "CellOrbits of shifts", x, e, [][]int{upTo(256)}, api.OK)
}

// orbitErrors returns the errors of Orbit, Canonical and Stabilizer; none of them
// may have a result beside it.
func orbitErrors(t *testing.T, l []api.Symmetry, f []int) [3]api.Errno {
	t.Helper()
	o, e1 := Orbit(l, f)
	c, e2 := Canonical(l, f)
	s, e3 := Stabilizer(l, f)
	if e1 != api.OK && len(o) > 0 || e2 != api.OK && len(c) > 0 || e3 != api.OK && len(s) > 0 {
		t.Errorf("a result beside an error: %v, %v, %v", o, c, s)
	}
	return [3]api.Errno{e1, e2, e3}
}

func TestOrbitErrors(t *testing.T) { // P5.3
	for what, row := range badFillings() {
		for _, l := range [][]api.Symmetry{nil, group(plain(1, 1)), group(plain(upTo(len(row.f))...))} {
			want(t, "errors for "+what, orbitErrors(t, l, row.f), [3]api.Errno{row.e, row.e, row.e})
			for _, pair := range [][2][]int{{row.f, nil}, {row.f, repeat(0, 257)}, {{1, 2}, row.f}} {
				a, e := Same(l, pair[0], pair[1])
				want(t, "Same for "+what, []any{len(a.Cells), a.Complement, e}, []any{0, false, row.e})
			}
		}
	}
	for what, row := range badGroups() {
		if row.cells >= 0 && row.cells <= 256 {
			f := repeat(1, row.cells)
			want(t, "errors of "+what, orbitErrors(t, row.l, f), [3]api.Errno{row.e, row.e, row.e})
			a, e := Same(row.l, f, f)
			want(t, "Same of "+what, []any{len(a.Cells), a.Complement, e}, []any{0, false, row.e})
			a, e = Same(row.l, f, append(f, 1)[:max(len(f)-1, 1-len(f))])
			want(t, "Same of other lengths, and of "+what, []any{len(a.Cells), a.Complement, e}, []any{0, false, api.ErrShape})
		}
		x, e := CellOrbits(row.l, row.cells)
		wantList(t, "CellOrbits of "+what, x, e, nil, row.e)
	}
	want(t, "errors of other cells", orbitErrors(t, dihedralOf(3), repeat(1, 8)), [3]api.Errno{api.ErrShape, api.ErrShape, api.ErrShape})
}

func TestImagesOutOfRange(t *testing.T) { // P5.3: no image may be, but those that Stabilizer and Same look at
	both := group(plain(0, 1, 2), flip(0, 1, 2))
	const least = -999999995 // its complement is just in range
	all, none := [3]api.Errno{api.ErrRange, api.ErrRange, api.OK}, [3]api.Errno{}
	for _, row := range []struct {
		l []api.Symmetry
		f []int
		e [3]api.Errno
	}{
		{both, []int{least, 0, 999999999}, none}, {both, []int{least - 1, 0, 0}, all}, {both, []int{0, 0, -999999999}, all}, {both, []int{0, least - 1, 999999999}, all},
		{both[:1], []int{least - 1, -999999999, 999999999}, none}, {group(plain(0, 1, 2), flip(1, 0, 2)), []int{least - 1, 0, 0}, all},
		{group(flip(0, 1, 2)), []int{least - 1, 0, 0}, [3]api.Errno{api.ErrConflict, api.ErrConflict, api.ErrConflict}},
	} {
		want(t, "errors", orbitErrors(t, row.l, row.f), row.e)
	}
	s, e := Stabilizer(both, []int{least - 1, 0, 0})
	wantGroup(t, "Stabilizer", s, e, both[:1], api.OK)
	a, e := Same(both, []int{least - 1, 0, 0}, []int{least - 1, 0, 0})
	wantGroup(t, "Same", group(a), e, both[:1], api.OK)
	a, e = Same(both, []int{least, 0, 4}, []int{999999999, 4, 0})
	wantGroup(t, "Same", group(a), e, both[1:], api.OK)
	_, e = Same(both, []int{least - 1, 0, 0}, []int{999999999, 4, 4})
	want(t, "Same of different orbits", e, api.ErrNone)
}
