package group

import (
	"math"
	"math/big"
	"slices"
	"strings"
	"testing"

	"talisman/api"
)

// lists returns all lists of n numbers from 1 to values.
func lists(n, values int) [][]int {
	all := [][]int{{}}
	for range n {
		var longer [][]int
		for _, f := range all {
			for x := 1; x <= values; x++ {
				longer = append(longer, append(slices.Clone(f), x))
			}
		}
		all = longer
	}
	return all
}

// least returns the least image of a list, where Complement turns x into values + 1 - x.
func least(l []api.Symmetry, f []int, values int) []int {
	var found []int
	for _, a := range l {
		g := make([]int, len(f))
		for i, x := range f {
			g[a.Cells[i]] = x
			if a.Complement {
				g[a.Cells[i]] = values + 1 - x
			}
		}
		if found == nil || slices.Compare(g, found) < 0 {
			found = g
		}
	}
	return found
}

func TestBurnsideExamples(t *testing.T) { // P5.4
	both := group(plain(0, 1, 2), flip(0, 1, 2))
	for _, row := range []struct {
		what          string
		l             []api.Symmetry
		cells, values int
		n             api.Rat
	}{
		{"Dihedral of 2", dihedralOf(2), 4, 2, "6"}, {"Shifts of 2", shiftsOf(2), 4, 2, "7"}, {"no values", dihedralOf(2), 4, 0, "0"}, {"one value", dihedralOf(2), 4, 1, "1"},
		{"three values and complements", both, 3, 3, "14"}, {"two values and complements", both, 3, 2, "4"}, {"no values and complements", both, 3, 0, "0"}, {"one value and complements", both, 3, 1, "1"},
		{"no cells", group(plain()), 0, 5, "1"}, {"no cells and no values", group(plain()), 0, 0, "1"}, {"no cells and complements", group(plain(), flip()), 0, 0, "1"}, {"no cells, complements and values", group(plain(), flip()), 0, 4, "1"},
		{"an exchange with complements", group(plain(0, 1), flip(1, 0)), 2, 2, "3"}, {"that without values", group(plain(0, 1), flip(1, 0)), 2, 0, "0"},
		{"the greatest number of values", group(plain(0, 1), plain(1, 0)), 2, 999999999, "499999999500000000"}, {"that with complements", group(plain(0), flip(0)), 1, 999999999, "500000000"},
		{"Dihedral of 3", dihedralOf(3), 9, 2, "102"}, {"Shifts of 3", shiftsOf(3), 9, 2, "64"},
	} {
		n, e := Burnside(row.l, row.cells, row.values)
		want(t, row.what, []any{n, e}, []any{row.n, api.OK})
	}
}

func TestBurnside(t *testing.T) { // P5.4: counted one by one
	for _, g := range someGroups() {
		for values := range 5 {
			if math.Pow(float64(values), float64(g.cells))*float64(len(g.l)) > 30000 {
				continue
			}
			orbits := map[string]bool{}
			for _, f := range lists(g.cells, values) {
				orbits[textOf(least(g.l, f, values))] = true
			}
			n, e := Burnside(g.l, g.cells, values)
			want(t, "Burnside", []any{n, e}, []any{api.Rat(big.NewInt(int64(len(orbits))).String()), api.OK})
		}
	}
}

// burnside is the mean of the numbers of lists that the symmetries leave as they
// are, and the sum of these numbers.
func burnside(t *testing.T, l []api.Symmetry, values int) (mean, sum *big.Int) {
	sum = new(big.Int)
	for _, a := range l {
		fixed := big.NewInt(1)
		seen := make([]bool, len(a.Cells))
		for i := range a.Cells {
			length := 0
			for k := i; !seen[k]; k = a.Cells[k] {
				seen[k] = true
				length++
			}
			switch {
			case length == 0:
			case !a.Complement || length%2 == 0:
				fixed.Mul(fixed, big.NewInt(int64(values)))
			default:
				fixed.Mul(fixed, big.NewInt(int64(values%2)))
			}
		}
		sum.Add(sum, fixed)
	}
	mean, rest := new(big.Int).DivMod(sum, big.NewInt(int64(len(l))), new(big.Int))
	want(t, "the rest of the mean", rest.Sign(), 0)
	return mean, sum
}

func TestGreatNumbersOfOrbits(t *testing.T) { // P5.4: numbers on the way have no limit
	great, _ := Closure(ofOrder1536(), 21)
	longer := 0
	for _, row := range []struct {
		l             []api.Symmetry
		cells, values int
	}{
		{shiftsOf(16), 256, 2}, {shiftsOf(16), 256, 225}, {shiftsOf(16), 256, 226}, {shiftsOf(16), 256, 999999999}, {dihedralOf(16), 256, 220}, {dihedralOf(16), 256, 221}, {dihedralOf(16), 256, 222}, {dihedralOf(16), 256, 223},
		{withComplements(dihedralOf(16)), 256, 221}, {withComplements(dihedralOf(16)), 256, 222}, {withComplements(dihedralOf(16)), 256, 223}, {withComplements(dihedralOf(16)), 256, 224},
		{shiftsOf(10), 100, 999999}, {shiftsOf(10), 100, 1000000}, {shiftsOf(10), 100, 1047128}, {shiftsOf(10), 100, 1047129}, {great, 21, 999999999}, {withComplements(shiftsOf(9)), 81, 26000000},
	} {
		n, e := Burnside(row.l, row.cells, row.values)
		mean, sum := burnside(t, row.l, row.values)
		if len(mean.String()) > 600 {
			want(t, "a number of 601 digits", []any{n, e}, []any{api.Rat(""), api.ErrLarge})
			continue
		}
		want(t, "a great number", []any{n, e}, []any{api.Rat(mean.String()), api.OK})
		if len(sum.String()) > 600 {
			longer++
		}
	}
	want(t, "some sums are longer than their means", longer > 3, true)
	n, e := Burnside(group(plain(upTo(200)...)), 200, 1000)
	want(t, "a number of 601 digits", []any{n, e}, []any{api.Rat(""), api.ErrLarge})
	n, e = Burnside(group(plain(upTo(200)...)), 200, 999)
	want(t, "a number of 600 digits", []any{len(n), e}, []any{600, api.OK})
	n, e = Burnside(group(plain(upTo(200)...), plain(append([]int{1, 0}, upTo(200)[2:]...)...)), 200, 1000)
	want(t, "half of 1 and 600 zeros, and half of 597", []any{n, e}, []any{api.Rat("5005" + strings.Repeat("0", 596)), api.OK})
}

func TestBurnsideErrors(t *testing.T) { // P5.4
	for what, row := range badGroups() {
		for _, values := range []int{2, -1, 1000000000} {
			n, e := Burnside(row.l, row.cells, values)
			want(t, "Burnside of "+what, []any{n, e}, []any{api.Rat(""), row.e})
		}
	}
	for _, values := range []int{-1, 1000000000, math.MaxInt, math.MinInt} {
		n, e := Burnside(group(plain(upTo(256)...)), 256, values)
		want(t, "Burnside for other values", []any{n, e}, []any{api.Rat(""), api.ErrRange})
	}
}

// subgroups returns all groups that up to two elements of a group generate.
func subgroups(cells int, l []api.Symmetry) [][]api.Symmetry {
	var all [][]api.Symmetry
	for _, a := range l {
		for _, b := range l {
			h := closed(cells, a, b)
			if !slices.ContainsFunc(all, func(other []api.Symmetry) bool { return slices.EqualFunc(h, other, equal) }) {
				all = append(all, h)
			}
		}
	}
	return all
}

// cosetOf returns the compositions of an element with all of a subgroup, that
// first, in ascending order.
func cosetOf(a api.Symmetry, h []api.Symmetry) []api.Symmetry {
	var coset []api.Symmetry
	for _, b := range h {
		coset = append(coset, composed(a, b))
	}
	slices.SortFunc(coset, order)
	return coset
}

func TestCosetExamples(t *testing.T) { // P5.4
	two := dihedralOf(2)
	half := group(plain(0, 1, 2, 3), plain(3, 2, 1, 0))
	k, e := Cosets(two, half, 4)
	wantGroup(t, "Cosets", k, e, group(plain(0, 1, 2, 3), plain(0, 2, 1, 3), plain(1, 0, 3, 2), plain(1, 3, 0, 2)), api.OK)
	three := dihedralOf(3)
	halfTurn := group(plain(upTo(9)...), plain(8, 7, 6, 5, 4, 3, 2, 1, 0))
	k, e = Cosets(three, halfTurn, 9)
	want(t, "Cosets by the half turn", []any{len(k), e}, []any{4, api.OK})
	is, e := IsNormal(three, halfTurn, 9)
	want(t, "IsNormal of the half turn", []any{is, e}, []any{true, api.OK})
	is, e = IsNormal(three, group(plain(upTo(9)...), mirrorOf3()), 9)
	want(t, "IsNormal of one mirror", []any{is, e}, []any{false, api.OK})
	// The cycle 1, 2, 0 and the exchange of the first two cells: first the
	// exchange, then the cycle, is the exchange of the cells 0 and 2.
	exchange := group(plain(0, 1, 2), plain(1, 0, 2))
	k, e = Cosets(symmetric(3), exchange, 3)
	wantGroup(t, "Cosets by an exchange", k, e, group(plain(0, 1, 2), plain(0, 2, 1), plain(1, 2, 0)), api.OK)
	k, e = Cosets(symmetric(3), group(plain(0, 1, 2), plain(0, 2, 1)), 3)
	wantGroup(t, "Cosets by the last exchange", k, e, group(plain(0, 1, 2), plain(1, 0, 2), plain(2, 0, 1)), api.OK)
}

func TestCosets(t *testing.T) { // P5.4
	normal := 0
	for _, g := range []grouped{{3, symmetric(3)}, {3, withComplements(symmetric(3))}, {4, symmetric(4)}, {4, withComplements(dihedralOf(2))}, {9, dihedralOf(3)}, {0, group(plain(), flip())}, {6, closed(6, flip(1, 2, 3, 4, 5, 0))}} {
		for _, h := range subgroups(g.cells, g.l) {
			var wanted []api.Symmetry
			isNormal := true
			for _, a := range g.l {
				coset := cosetOf(a, h)
				if !contains(wanted, coset[0]) {
					wanted = append(wanted, coset[0])
				}
				back, _ := Invert(a)
				for _, b := range h {
					isNormal = isNormal && contains(h, composed(a, composed(b, back)))
				}
			}
			slices.SortFunc(wanted, order)
			k, e := Cosets(g.l, h, g.cells)
			wantGroup(t, "Cosets", k, e, wanted, api.OK)
			is, e := IsNormal(g.l, h, g.cells)
			want(t, "IsNormal", []any{is, e}, []any{isNormal, api.OK})
			if isNormal {
				normal++
			}
		}
	}
	want(t, "some subgroups are normal", normal > 20, true)
}

func TestCosetsOfGreatGroups(t *testing.T) { // P5.4
	l, _ := Closure(ofOrder1536(), 21)
	h, _ := Closure(ofOrder1536()[:5], 21)
	k, e := Cosets(l, h, 21)
	want(t, "Cosets", []any{len(k), e}, []any{48, api.OK})
	is, e := IsNormal(l, h, 21)
	want(t, "IsNormal in a group whose elements commute", []any{is, e}, []any{true, api.OK})
	k, e = Cosets(l, l, 21)
	wantGroup(t, "Cosets by all", k, e, l[:1], api.OK)
	k, e = Cosets(l, l[:1], 21)
	wantGroup(t, "Cosets by the identity", k, e, l, api.OK)
}

func TestCosetErrors(t *testing.T) { // P5.4
	one := func(cells int) []api.Symmetry { return group(plain(upTo(cells)...)) }
	check := func(what string, l, h []api.Symmetry, cells int, e api.Errno) {
		t.Helper()
		k, code := Cosets(l, h, cells)
		wantGroup(t, "Cosets of "+what, k, code, nil, e)
		is, code := IsNormal(l, h, cells)
		want(t, "IsNormal of "+what, []any{is, code}, []any{false, e})
	}
	for what, row := range badGroups() {
		check(what, row.l, nil, row.cells, row.e)
		check(what, row.l, group(plain(0, 0)), row.cells, row.e)
		if row.cells >= 0 && row.cells <= 256 {
			check("one by "+what, one(row.cells), row.l, row.cells, row.e)
		}
	}
	check("a group by a larger one", one(4), dihedralOf(2), 4, api.ErrConflict)
	check("a group by another one", group(plain(0, 1, 2), plain(1, 0, 2)), group(plain(0, 1, 2), plain(0, 2, 1)), 3, api.ErrConflict)
	check("a group by one with complements", symmetric(3), withComplements(symmetric(3)), 3, api.ErrConflict)
	check("a group by a group of other cells", dihedralOf(3), dihedralOf(2), 9, api.ErrShape)
}
