package group

import (
	"math"
	"math/rand"
	"testing"

	"talisman/api"
)

func TestClosureExamples(t *testing.T) { // P5.2
	dihedral := dihedralOf(3)
	want(t, "the number of Dihedral of 3", len(dihedral), 8)
	for _, row := range []struct {
		cells     int
		l, wanted []api.Symmetry
	}{
		{9, group(turnOf3(), mirrorOf3()), dihedral}, {9, dihedral, dihedral}, {9, group(mirrorOf3(), turnOf3(), turnOf3()), dihedral},
		{2, nil, group(plain(0, 1))}, {0, nil, group(plain())}, {1, nil, group(plain(0))}, {0, group(flip()), group(plain(), flip())},
		{3, group(plain(0, 1, 2)), group(plain(0, 1, 2))}, {3, group(flip(0, 1, 2)), group(plain(0, 1, 2), flip(0, 1, 2))},
		{3, group(plain(1, 2, 0)), group(plain(0, 1, 2), plain(1, 2, 0), plain(2, 0, 1))},
		{2, group(flip(1, 0)), group(plain(0, 1), flip(1, 0))}, {2, group(flip(0, 1), plain(1, 0)), withComplements(symmetric(2))},
		{4, group(plain(1, 0, 2, 3), plain(1, 2, 3, 0)), symmetric(4)},
	} {
		l, e := Closure(row.l, row.cells)
		wantGroup(t, "Closure", l, e, row.wanted, api.OK)
	}
}

func TestClosures(t *testing.T) { // P5.2
	random := rand.New(rand.NewSource(55))
	for cells := range 5 {
		for k := range 12 {
			var l []api.Symmetry
			for range k % 4 {
				l = append(l, someSymmetry(random, cells))
			}
			c, e := Closure(l, cells)
			wantGroup(t, "Closure", c, e, closed(cells, l...), api.OK)
		}
	}
	for _, n := range []int{5, 6} {
		all, e := Closure(group(plain(append([]int{1, 0}, upTo(n)[2:]...)...), plain(cycles(n)...)), n)
		wantGroup(t, "Closure of generators of all permutations", all, e, symmetric(n), api.OK)
	}
	five, e := Closure(append(symmetric(5), flip(4, 3, 2, 1, 0)), 5)
	wantGroup(t, "Closure of 121 symmetries", five, e, withComplements(symmetric(5)), api.OK)
}

func TestClosureErrors(t *testing.T) { // P5.2
	for what, row := range badSymmetries() {
		l, e := Closure(group(row.a), row.cells)
		wantGroup(t, "Closure of "+what, l, e, nil, row.e)
	}
	transposition := plain(append([]int{1, 0}, upTo(7)[2:]...)...)
	for what, row := range map[string]badGroup{
		"nothing for -1 cells":               {nil, -1, api.ErrRange},
		"nothing for 257 cells":              {nil, 257, api.ErrRange},
		"257 symmetries for 257 cells":       {make([]api.Symmetry, 257), 257, api.ErrRange},
		"257 symmetries of other cells":      {make([]api.Symmetry, 257), 3, api.ErrMany},
		"257 times the identity":             {make([]api.Symmetry, 257), 0, api.ErrMany},
		"256 times the identity":             {make([]api.Symmetry, 256), 0, api.OK},
		"256 symmetries of other cells":      {make([]api.Symmetry, 256), 3, api.ErrShape},
		"a shape before a cell twice":        {group(plain(0, 1), plain(0, 0, 0)), 3, api.ErrShape},
		"a cell twice before a shape":        {group(plain(0, 0, 0), plain(0, 1)), 3, api.ErrPerm},
		"all permutations of seven cells":    {group(transposition, plain(cycles(7)...)), 7, api.ErrLimit},
		"those, and one that is none":        {group(transposition, plain(cycles(7)...), plain(repeat(0, 7)...)), 7, api.ErrPerm},
		"1537 powers":                        {group(plain(cycles(29, 53)...)), 82, api.ErrLimit},
		"1536 symmetries, and complements":   {append(ofOrder1536(), flip(upTo(21)...)), 21, api.ErrLimit},
		"1536 symmetries, each one for once": {ofOrder1536(), 21, api.OK},
		"so many that none could list them":  {group(plain(cycles(256)...), plain(cycles(2, 254)...)), 256, api.ErrLimit},
	} {
		l, e := Closure(row.l, row.cells)
		want(t, "error of Closure of "+what, e, row.e)
		want(t, "Closure has a result of "+what, len(l) > 0, row.e == api.OK)
	}
	for _, lengths := range [][]int{{128, 3, 4}, {3, 256 - 3}, {49, 31}} {
		n, _ := Order(plain(cycles(lengths...)...))
		cells := len(cycles(lengths...))
		l, e := Closure(group(plain(cycles(lengths...)...)), cells)
		want(t, "the number of powers", []any{len(l), e}, []any{n, api.OK})
	}
}

func TestSquareGroups(t *testing.T) { // P5.2
	for n := 1; n <= 16; n++ {
		l, e := Dihedral(n)
		wantGroup(t, "Dihedral", l, e, dihedralOf(n), api.OK)
		want(t, "the number of Dihedral", len(l), map[bool]int{false: 8, true: 1}[n == 1])
		l, e = Shifts(n)
		wantGroup(t, "Shifts", l, e, shiftsOf(n), api.OK)
		want(t, "the number of Shifts", len(l), n*n)
	}
	for n, number := range []int{1: 1, 2: 2, 3: 2, 4: 8, 5: 8, 6: 48, 7: 48, 8: 384} {
		if n > 0 {
			l, e := RowColumn(n)
			wantGroup(t, "RowColumn", l, e, rowColumnOf(n), api.OK)
			want(t, "the number of RowColumn", len(l), number)
		}
	}
	nine, e := RowColumn(9)
	want(t, "RowColumn of 9", []any{len(nine), e}, []any{384, api.OK})
	for _, a := range nine {
		for i := range 9 {
			for j := range 9 {
				row, column := a.Cells[10*i]/9, a.Cells[10*j]/9
				want(t, "a cell of RowColumn of 9", a.Cells[9*i+j], 9*row+column)
				want(t, "its opposite", a.Cells[80-9*i-j], 80-9*row-column)
			}
		}
	}
	want(t, "CheckGroup of RowColumn of 9", CheckGroup(nine, 81), api.OK)
}

func TestSquareGroupErrors(t *testing.T) { // P5.2
	for _, n := range []int{0, -1, 17, 25, math.MaxInt, math.MinInt, 1 << 32} {
		l, e := Dihedral(n)
		wantGroup(t, "Dihedral", l, e, nil, api.ErrRange)
		l, e = Shifts(n)
		wantGroup(t, "Shifts", l, e, nil, api.ErrRange)
		l, e = RowColumn(n)
		wantGroup(t, "RowColumn", l, e, nil, api.ErrRange)
	}
	for n := 10; n <= 16; n++ {
		l, e := RowColumn(n)
		wantGroup(t, "RowColumn", l, e, nil, api.ErrMany)
	}
}
