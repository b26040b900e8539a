package group

import (
	"math/rand"
	"slices"
	"testing"

	"talisman/api"
	"talisman/lines"
)

func system(cells int, lines ...[]int) api.System {
	return api.System{Cells: cells, Lines: lines}
}

// rowsAndColumns is the system of the document's example.
func rowsAndColumns() api.System {
	return system(4, []int{0, 1}, []int{2, 3}, []int{0, 2}, []int{1, 3})
}

// keeps reports whether each line moves to a line, as the document has it.
func keeps(s api.System, a api.Symmetry) bool {
	for _, line := range s.Lines {
		found := false
		for _, other := range s.Lines {
			same := len(line) == len(other)
			for _, cell := range line {
				same = same && slices.Contains(other, a.Cells[cell])
			}
			found = found || same
		}
		if !found {
			return false
		}
	}
	return true
}

// automorphismsOf returns all permutations of cells that keep a system.
func automorphismsOf(s api.System) []api.Symmetry {
	var l []api.Symmetry
	for _, a := range symmetric(s.Cells) {
		if keeps(s, a) {
			l = append(l, a)
		}
	}
	return l
}

// someSystem returns a system with up to so many lines, of any lengths or of one.
func someSystem(random *rand.Rand, cells, lines, length int) api.System {
	s := api.System{Cells: cells}
	for range random.Intn(lines + 1) {
		n := length
		if n == 0 {
			n = 1 + random.Intn(cells)
		}
		line := random.Perm(cells)[:n]
		slices.Sort(line)
		if !slices.ContainsFunc(s.Lines, func(other []int) bool { return slices.Equal(line, other) }) {
			s.Lines = append(s.Lines, line)
		}
	}
	return s
}

// badSystem is a system with its error.
type badSystem struct {
	s api.System
	e api.Errno
}

func badSystems() map[string]badSystem {
	return map[string]badSystem{
		"no cells":         {system(0), api.ErrRange},
		"-1 cells":         {system(-1), api.ErrRange},
		"257 cells":        {system(257, []int{300}), api.ErrRange},
		"129 lines":        {api.System{Cells: 10, Lines: make([][]int, 129)}, api.ErrMany},
		"an empty line":    {system(10, []int{}, []int{10}), api.ErrEmpty},
		"an unknown cell":  {system(10, []int{0, 10}), api.ErrUnknown},
		"a cell below 0":   {system(3, []int{-1}), api.ErrUnknown},
		"a wrong order":    {system(10, []int{1, 0}), api.ErrOrder},
		"a line twice":     {system(10, []int{0, 1}, []int{0, 1}), api.ErrTwice},
		"one of few cells": {system(3, []int{0, 1}, []int{0, 0}), api.ErrOrder},
	}
}

func TestKeeps(t *testing.T) { // P5.2
	for _, row := range []struct {
		s  api.System
		a  api.Symmetry
		is bool
	}{
		{rowsAndColumns(), plain(1, 0, 3, 2), true}, {rowsAndColumns(), plain(1, 0, 2, 3), false}, {rowsAndColumns(), plain(0, 2, 1, 3), true}, {rowsAndColumns(), flip(0, 2, 1, 3), true}, {rowsAndColumns(), flip(1, 0, 2, 3), false},
		{system(3), plain(2, 0, 1), true}, {system(1, []int{0}), flip(0), true}, {system(3, []int{1}), plain(0, 2, 1), false}, {system(3, []int{1}), plain(2, 1, 0), true},
		{system(3, []int{0, 1}, []int{1, 2}, []int{1}), plain(2, 1, 0), true}, {system(3, []int{0, 1}, []int{0, 1, 2}), plain(1, 2, 0), false}, {system(3, []int{0, 1, 2}), plain(1, 2, 0), true},
	} {
		is, e := Keeps(row.s, row.a)
		want(t, "Keeps", []any{is, e}, []any{row.is, api.OK})
	}
	random := rand.New(rand.NewSource(56))
	for k := range 2000 {
		s := someSystem(random, 1+random.Intn(6), 6, 0)
		a := someSymmetry(random, s.Cells)
		is, e := Keeps(s, a)
		want(t, "Keeps", []any{is, e}, []any{keeps(s, a), api.OK})
		image := s
		if k%2 == 0 { // a system that a keeps: the lines of all powers
			for range 60 {
				image = system(s.Cells, append(image.Lines, movedLines(a, image.Lines)...)...)
				image.Lines = withoutRepetitions(image.Lines)
			}
			is, e = Keeps(image, a)
			want(t, "Keeps of a system with all images", []any{is, e}, []any{true, api.OK})
		}
	}
}

// movedLines returns the images of lines, each one in ascending order.
func movedLines(a api.Symmetry, list [][]int) [][]int {
	var all [][]int
	for _, line := range list {
		var image []int
		for _, cell := range line {
			image = append(image, a.Cells[cell])
		}
		slices.Sort(image)
		all = append(all, image)
	}
	return all
}

func withoutRepetitions(list [][]int) [][]int {
	list = slices.Clone(list)
	slices.SortFunc(list, slices.Compare)
	return slices.CompactFunc(list, slices.Equal)
}

func TestKeepsOfSquares(t *testing.T) { // P5.2
	for n := 1; n <= 16; n++ {
		for _, row := range []struct {
			kind                    string
			dihedral, shifts, pairs bool
		}{{"semimagic", true, true, true}, {"magic", true, false, true}, {"pandiagonal", true, true, false}} {
			s, e := lines.SquareSystem(row.kind, n)
			want(t, "error of SquareSystem", e, api.OK)
			last := func(l []api.Symmetry, e api.Errno) api.Symmetry {
				want(t, "error of a group", e, api.OK)
				return l[len(l)-1]
			}
			is, e := Keeps(s, last(Dihedral(n)))
			want(t, "a turn", []any{is, e}, []any{row.dihedral, api.OK})
			is, e = Keeps(s, last(Shifts(n)))
			want(t, "a shift", []any{is, e}, []any{row.shifts || n <= 2, api.OK})
			if n >= 4 && n <= 9 {
				exchange := exchangeOfPairs(n)
				is, e = Keeps(s, exchange)
				want(t, "an exchange of rows and columns", []any{is, e}, []any{row.pairs, api.OK})
			}
		}
	}
}

// exchangeOfPairs turns the first and the last row and column.
func exchangeOfPairs(n int) api.Symmetry {
	q := upTo(n)
	q[0], q[n-1] = n-1, 0
	a := plain(upTo(n * n)...)
	for cell := range n * n {
		a.Cells[cell] = n*q[cell/n] + q[cell%n]
	}
	return a
}

func TestAutomorphismExamples(t *testing.T) { // P5.2
	for _, row := range []struct {
		s      api.System
		wanted []api.Symmetry
	}{
		{rowsAndColumns(), dihedralOf(2)}, {system(3, []int{0, 1}), group(plain(0, 1, 2), plain(1, 0, 2))}, {system(1), group(plain(0))}, {system(1, []int{0}), group(plain(0))},
		{system(6), symmetric(6)}, {system(6, upTo(6)), symmetric(6)}, {system(3, []int{0}, []int{0, 1}, []int{2}), group(plain(0, 1, 2))}, {system(3, []int{0}, []int{2}), group(plain(0, 1, 2), plain(2, 1, 0))},
	} {
		l, e := Automorphisms(row.s)
		wantGroup(t, "Automorphisms", l, e, row.wanted, api.OK)
	}
	square, _ := lines.SquareSystem("magic", 3)
	l, e := Automorphisms(square)
	wantGroup(t, "Automorphisms of magic squares of the order 3", l, e, dihedralOf(3), api.OK)
}

func TestNumbersOfAutomorphisms(t *testing.T) { // P5.2: known groups of seven to nine cells
	semimagic, _ := lines.SquareSystem("semimagic", 3)
	affine, _ := lines.SquareSystem("pandiagonal", 3)
	rows, _ := lines.RowLines(3, 3)
	fano := system(7, []int{0, 1, 2}, []int{0, 3, 4}, []int{0, 5, 6}, []int{1, 3, 5}, []int{1, 4, 6}, []int{2, 3, 6}, []int{2, 4, 5})
	cycle := system(9, []int{0, 1}, []int{1, 2}, []int{2, 3}, []int{3, 4}, []int{4, 5}, []int{5, 6}, []int{6, 7}, []int{7, 8}, []int{0, 8})
	for what, row := range map[string]struct {
		s      api.System
		number int
		e      api.Errno
	}{
		"rows and columns of the order 3": {semimagic, 72, api.OK}, "the affine plane": {affine, 432, api.OK}, "three rows": {rows, 1296, api.OK},
		"the plane of seven points": {fano, 168, api.OK}, "a cycle of nine": {cycle, 18, api.OK},
		"two lines of four":               {system(9, []int{0, 1, 2, 3}, []int{5, 6, 7, 8}), 1152, api.OK},
		"lines of six and two":            {system(9, []int{1, 2, 3, 4, 5, 6}, []int{7, 8}), 1440, api.OK},
		"lines of four, of three, of two": {system(9, []int{0, 2, 4, 6}, []int{1, 3, 5}, []int{7, 8}), 288, api.OK},
		"lines of five and four":          {system(9, []int{0, 1, 2, 3, 4}, []int{5, 6, 7, 8}), 0, api.ErrMany},
		"seven cells without lines":       {system(7), 0, api.ErrMany}, "nine cells without lines": {system(9), 0, api.ErrMany}, "a line of all nine": {system(9, upTo(9)), 0, api.ErrMany},
		"ten cells": {system(10, []int{0}, []int{0, 1}), 0, api.ErrLimit}, "ten cells without lines": {system(10), 0, api.ErrLimit}, "256 cells": {system(256), 0, api.ErrLimit},
	} {
		l, e := Automorphisms(row.s)
		want(t, "Automorphisms of "+what, []any{len(l), e}, []any{row.number, row.e})
		for _, a := range l {
			want(t, "an automorphism of "+what, keeps(row.s, a) && !a.Complement, true)
		}
		if e == api.OK {
			want(t, "CheckGroup of the automorphisms of "+what, CheckGroup(l, row.s.Cells), api.OK)
		}
	}
}

func TestAutomorphisms(t *testing.T) { // P5.2
	random := rand.New(rand.NewSource(57))
	for cells := 1; cells <= 6; cells++ {
		for k := range 20 {
			s := someSystem(random, cells, 8, min(k%4, cells))
			l, e := Automorphisms(s)
			wantGroup(t, "Automorphisms", l, e, automorphismsOf(s), api.OK)
		}
	}
	for cells := 7; cells <= 8; cells++ {
		s := someSystem(random, cells, 9, 3)
		s.Lines = append(s.Lines, []int{0}, []int{0, 1, 2, 3, 4, 5})
		l, e := Automorphisms(s)
		wantGroup(t, "Automorphisms of seven or eight cells", l, e, automorphismsOf(s), api.OK)
	}
}

func TestLinesThatEndAlike(t *testing.T) { // P5.2: nothing is known of the lines before the last cell moves
	var sets [][]int // those of the first seven cells, each one with the last cell
	for set := range 1 << 7 {
		var line []int
		for cell := range 7 {
			if set>>cell&1 == 1 {
				line = append(line, cell)
			}
		}
		sets = append(sets, append(line, 8))
	}
	l, e := Automorphisms(system(9, sets...))
	wantGroup(t, "Automorphisms of all sets", l, e, nil, api.ErrMany)
	l, e = Automorphisms(system(9, sets[8:]...)) // without those of the cells 0, 1 and 2 alone
	want(t, "Automorphisms of most sets", []any{len(l), e}, []any{6 * 24, api.OK})
	l, e = Automorphisms(system(9, []int{0, 8}, []int{0, 1, 8}, []int{1, 2, 8}, []int{2, 3, 4, 5, 8}))
	wantGroup(t, "Automorphisms of a few sets", l, e, closed(9, plain(0, 1, 2, 4, 3, 5, 6, 7, 8), plain(0, 1, 2, 3, 5, 4, 6, 7, 8), plain(0, 1, 2, 3, 4, 5, 7, 6, 8)), api.OK)
}

func TestSystemErrors(t *testing.T) { // P5.2
	for what, row := range badSystems() {
		is, e := Keeps(row.s, plain(0, 0))
		want(t, "Keeps of "+what, []any{is, e}, []any{false, row.e})
		l, e := Automorphisms(row.s)
		wantGroup(t, "Automorphisms of "+what, l, e, nil, row.e)
	}
	for what, row := range badSymmetries() {
		if row.cells >= 1 && row.cells <= 256 {
			is, e := Keeps(system(row.cells, []int{0}), row.a)
			want(t, "Keeps of "+what, []any{is, e}, []any{false, row.e})
			is, e = Keeps(system(row.cells), row.a)
			want(t, "Keeps without lines of "+what, []any{is, e}, []any{false, row.e})
		}
	}
}
