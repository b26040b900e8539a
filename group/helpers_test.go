package group

import (
	"math"
	"math/rand"
	"reflect"
	"slices"
	"testing"

	"talisman/api"
)

// want reports a result that is not the wanted one.
func want(t *testing.T, what string, got, wanted any) {
	t.Helper()
	if !reflect.DeepEqual(got, wanted) {
		t.Errorf("%s: got %v, want %v", what, got, wanted)
	}
}

// wantList is want for a list and its error: nil and empty lists are equal.
func wantList[T any](t *testing.T, what string, got []T, e api.Errno, wanted []T, code api.Errno) {
	t.Helper()
	want(t, "error of "+what, e, code)
	if len(got) > 0 || len(wanted) > 0 {
		want(t, what, got, wanted)
	}
}

// wantGroup is want for symmetries and their error.
func wantGroup(t *testing.T, what string, got []api.Symmetry, e api.Errno, wanted []api.Symmetry, code api.Errno) {
	t.Helper()
	wantList(t, what, filledLists(got), e, filledLists(wanted), code)
}

// filledLists returns the symmetries without nil lists.
func filledLists(l []api.Symmetry) []api.Symmetry {
	var list []api.Symmetry
	for _, a := range l {
		list = append(list, api.Symmetry{Cells: append([]int{}, a.Cells...), Complement: a.Complement})
	}
	return list
}

// plain returns a symmetry without Complement, flip one with it.
func plain(cells ...int) api.Symmetry { return api.Symmetry{Cells: cells} }
func flip(cells ...int) api.Symmetry  { return api.Symmetry{Cells: cells, Complement: true} }

func group(l ...api.Symmetry) []api.Symmetry { return l }

func loShu() []int {
	return []int{2, 7, 6, 9, 5, 1, 4, 3, 8}
}

func mirrorOf3() api.Symmetry { return plain(2, 1, 0, 5, 4, 3, 8, 7, 6) }
func turnOf3() api.Symmetry   { return plain(2, 5, 8, 1, 4, 7, 0, 3, 6) }

func upTo(n int) []int {
	list := make([]int, n)
	for i := range list {
		list[i] = i
	}
	return list
}

func repeat(x, n int) []int {
	return slices.Repeat([]int{x}, n)
}

// cycles returns the permutation with cycles of these lengths, one after another.
func cycles(lengths ...int) []int {
	var p []int
	for _, n := range lengths {
		from := len(p)
		for i := range n {
			p = append(p, from+(i+1)%n)
		}
	}
	return p
}

// order is the order of symmetries, as the document has it.
func order(a, b api.Symmetry) int {
	if c := slices.Compare(a.Cells, b.Cells); c != 0 {
		return c
	}
	switch {
	case a.Complement == b.Complement:
		return 0
	case b.Complement:
		return -1
	}
	return 1
}

func equal(a, b api.Symmetry) bool { return order(a, b) == 0 }

func contains(l []api.Symmetry, a api.Symmetry) bool {
	return slices.ContainsFunc(l, func(b api.Symmetry) bool { return equal(a, b) })
}

// moved is the image of a filling, as the document has it.
func moved(a api.Symmetry, f []int) []int {
	g := make([]int, len(f))
	for i := range f {
		g[a.Cells[i]] = f[i]
		if a.Complement {
			g[a.Cells[i]] = len(f) + 1 - f[i]
		}
	}
	return g
}

// composed is first b, then a.
func composed(a, b api.Symmetry) api.Symmetry {
	c := api.Symmetry{Cells: make([]int, len(b.Cells)), Complement: a.Complement != b.Complement}
	for i := range b.Cells {
		c.Cells[i] = a.Cells[b.Cells[i]]
	}
	return c
}

// closed returns the least group with some symmetries: compositions of all pairs
// are added as long as there are new ones.
func closed(cells int, l ...api.Symmetry) []api.Symmetry {
	all := group(plain(upTo(cells)...))
	for _, a := range l {
		if !contains(all, a) {
			all = append(all, a)
		}
	}
	for k := 0; k < len(all); k++ {
		for m := 0; m <= k; m++ {
			for _, c := range group(composed(all[k], all[m]), composed(all[m], all[k])) {
				if !contains(all, c) {
					all = append(all, c)
				}
			}
		}
	}
	slices.SortFunc(all, order)
	return all
}

// permutations returns all permutations of n in lexicographic order.
func permutations(n int) [][]int {
	if n == 0 {
		return [][]int{{}}
	}
	var all [][]int
	for first := range n {
		for _, rest := range permutations(n - 1) {
			p := []int{first}
			for _, x := range rest {
				if x >= first {
					x++
				}
				p = append(p, x)
			}
			all = append(all, p)
		}
	}
	return all
}

// symmetric returns the group of all permutations of n cells.
func symmetric(n int) []api.Symmetry {
	var l []api.Symmetry
	for _, p := range permutations(n) {
		l = append(l, plain(p...))
	}
	return l
}

// withComplements returns a group with all of its symmetries also with Complement.
func withComplements(l []api.Symmetry) []api.Symmetry {
	var all []api.Symmetry
	for _, a := range l {
		all = append(all, a, flip(a.Cells...))
	}
	return all
}

func someSymmetry(random *rand.Rand, cells int) api.Symmetry {
	return api.Symmetry{Cells: random.Perm(cells), Complement: random.Intn(2) == 0}
}

func someFilling(random *rand.Rand, cells, from, to int) []int {
	f := make([]int, cells)
	for i := range f {
		f[i] = from + random.Intn(to-from+1)
	}
	return f
}

// grouped is a group with its number of cells.
type grouped struct {
	cells int
	l     []api.Symmetry
}

// someGroups returns groups of up to six cells, and some of squares.
func someGroups() []grouped {
	random := rand.New(rand.NewSource(5))
	all := []grouped{{0, group(plain())}, {0, group(plain(), flip())}, {1, group(plain(0))}, {1, group(plain(0), flip(0))}, {2, group(plain(0, 1), flip(1, 0))}}
	for cells := 1; cells <= 5; cells++ {
		for k := range 10 {
			var l []api.Symmetry
			for range k % 3 {
				l = append(l, someSymmetry(random, cells))
			}
			all = append(all, grouped{cells, closed(cells, l...)})
		}
	}
	all = append(all, grouped{4, symmetric(4)}, grouped{4, withComplements(symmetric(4))}, grouped{6, closed(6, flip(1, 2, 3, 4, 5, 0))})
	for n := 1; n <= 4; n++ {
		dihedral, shifts, rows := dihedralOf(n), shiftsOf(n), rowColumnOf(n)
		all = append(all, grouped{n * n, dihedral}, grouped{n * n, withComplements(dihedral)}, grouped{n * n, shifts}, grouped{n * n, withComplements(shifts)}, grouped{n * n, rows})
	}
	return all
}

// symmetriesOfSquare returns the symmetries of some moves of the cells, each one
// once, in ascending order.
func symmetriesOfSquare(n int, moves ...func(i, j int) (int, int)) []api.Symmetry {
	var l []api.Symmetry
	for _, to := range moves {
		a := plain(make([]int, n*n)...)
		for i := range n {
			for j := range n {
				row, column := to(i, j)
				a.Cells[n*i+j] = n*row + column
			}
		}
		l = append(l, a)
	}
	slices.SortFunc(l, order)
	return slices.CompactFunc(l, equal)
}

func dihedralOf(n int) []api.Symmetry {
	m := n - 1
	return symmetriesOfSquare(n,
		func(i, j int) (int, int) { return i, j }, func(i, j int) (int, int) { return i, m - j },
		func(i, j int) (int, int) { return m - i, j }, func(i, j int) (int, int) { return m - i, m - j },
		func(i, j int) (int, int) { return j, i }, func(i, j int) (int, int) { return j, m - i },
		func(i, j int) (int, int) { return m - j, i }, func(i, j int) (int, int) { return m - j, m - i })
}

func shiftsOf(n int) []api.Symmetry {
	var moves []func(i, j int) (int, int)
	for a := range n {
		for b := range n {
			moves = append(moves, func(i, j int) (int, int) { return (i + a) % n, (j + b) % n })
		}
	}
	return symmetriesOfSquare(n, moves...)
}

// rowColumnOf takes the permutations q with q(n - 1 - i) = n - 1 - q(i) from all of n.
func rowColumnOf(n int) []api.Symmetry {
	var moves []func(i, j int) (int, int)
	for _, q := range permutations(n) {
		fits := true
		for i := range q {
			fits = fits && q[n-1-i] == n-1-q[i]
		}
		if fits {
			moves = append(moves, func(i, j int) (int, int) { return q[i], q[j] })
		}
	}
	return symmetriesOfSquare(n, moves...)
}

// badSymmetry is a symmetry with its error for a number of cells.
type badSymmetry struct {
	a     api.Symmetry
	cells int
	e     api.Errno
}

func badSymmetries() map[string]badSymmetry {
	return map[string]badSymmetry{
		"-1 cells":                         {plain(), -1, api.ErrRange},
		"the least number of cells":        {plain(5), math.MinInt, api.ErrRange},
		"257 cells":                        {plain(upTo(257)...), 257, api.ErrRange},
		"257 cells, which are none":        {plain(repeat(-1, 257)...), 257, api.ErrRange},
		"the greatest number of cells":     {plain(0), math.MaxInt, api.ErrRange},
		"a cell too few":                   {plain(1, 0), 3, api.ErrShape},
		"a cell too many":                  {plain(1, 0), 1, api.ErrShape},
		"no cells where one is":            {flip(), 1, api.ErrShape},
		"a cell where none is":             {plain(0), 0, api.ErrShape},
		"a shape, and a cell twice":        {plain(1, 1), 3, api.ErrShape},
		"257 numbers for 256 cells":        {plain(upTo(257)...), 256, api.ErrShape},
		"a cell twice":                     {plain(1, 1, 2), 3, api.ErrPerm},
		"a cell behind the last one":       {plain(1, 3, 2), 3, api.ErrPerm},
		"a cell before the first one":      {flip(-1, 0), 2, api.ErrPerm},
		"the greatest number":              {plain(math.MaxInt), 1, api.ErrPerm},
		"the least number":                 {plain(0, math.MinInt), 2, api.ErrPerm},
		"the cell 256 of 256":              {plain(append(upTo(255), 256)...), 256, api.ErrPerm},
		"a cell of 256 twice, at the ends": {plain(append([]int{255}, upTo(256)[1:]...)...), 256, api.ErrPerm},
	}
}

// badGroup is a list of symmetries with its error for a number of cells.
type badGroup struct {
	l     []api.Symmetry
	cells int
	e     api.Errno
}

func badGroups() map[string]badGroup {
	id, turn, back := plain(0, 1, 2), plain(1, 2, 0), plain(2, 0, 1)
	return map[string]badGroup{
		"nothing for -1 cells":                  {nil, -1, api.ErrRange},
		"nothing for 257 cells":                 {nil, 257, api.ErrRange},
		"1537 symmetries for 257 cells":         {make([]api.Symmetry, 1537), 257, api.ErrRange},
		"nothing":                               {nil, 3, api.ErrEmpty},
		"nothing for no cells":                  {group(), 0, api.ErrEmpty},
		"1537 symmetries of other cells":        {make([]api.Symmetry, 1537), 3, api.ErrMany},
		"1537 times the identity":               {make([]api.Symmetry, 1537), 0, api.ErrMany},
		"1536 symmetries of other cells":        {make([]api.Symmetry, 1536), 3, api.ErrShape},
		"1536 times the identity":               {make([]api.Symmetry, 1536), 0, api.ErrOrder},
		"a shape before a cell twice":           {group(id, plain(0, 1), plain(0, 0, 0)), 3, api.ErrShape},
		"a cell twice before a shape":           {group(id, plain(0, 0, 0), plain(0, 1)), 3, api.ErrPerm},
		"a wrong order before a shape":          {group(turn, id, plain(0)), 3, api.ErrShape},
		"a wrong order before a cell twice":     {group(turn, id, plain(0, 0, 0)), 3, api.ErrPerm},
		"a wrong order":                         {group(turn, id, back), 3, api.ErrOrder},
		"a wrong order at the end":              {group(id, back, turn), 3, api.ErrOrder},
		"a wrong order, and a composition less": {group(turn, id), 3, api.ErrOrder},
		"one twice":                             {group(id, id), 3, api.ErrOrder},
		"the last one twice":                    {group(id, turn, back, back), 3, api.ErrOrder},
		"the complement first":                  {group(flip(0, 1, 2), id), 3, api.ErrOrder},
		"the complement twice":                  {group(id, flip(0, 1, 2), flip(0, 1, 2)), 3, api.ErrOrder},
		"no identity":                           {group(turn, back), 3, api.ErrConflict},
		"the complement alone":                  {group(flip(0, 1, 2)), 3, api.ErrConflict},
		"the complement of no cells alone":      {group(flip()), 0, api.ErrConflict},
		"an exchange alone":                     {group(plain(1, 0)), 2, api.ErrConflict},
		"no inverse":                            {group(id, turn), 3, api.ErrConflict},
		"two exchanges":                         {group(id, plain(0, 2, 1), plain(1, 0, 2)), 3, api.ErrConflict},
		"a cycle of three with Complement":      {group(id, flip(1, 2, 0), flip(2, 0, 1)), 3, api.ErrConflict},
		"one with its complement alone":         {group(id, plain(0, 2, 1), flip(0, 2, 1)), 3, api.ErrConflict},
	}
}

// badFilling is a filling with its error.
type badFilling struct {
	f []int
	e api.Errno
}

func badFillings() map[string]badFilling {
	return map[string]badFilling{
		"257 numbers":                {repeat(1, 257), api.ErrMany},
		"257 numbers out of range":   {repeat(math.MaxInt, 257), api.ErrMany},
		"a number above the range":   {[]int{1, 2, 1000000000}, api.ErrRange},
		"a number below the range":   {[]int{-1000000000, 2, 3}, api.ErrRange},
		"the greatest number":        {[]int{math.MaxInt}, api.ErrRange},
		"the least number":           {append(repeat(1, 255), math.MinInt), api.ErrRange},
		"one of them is out":         {[]int{5, -1000000000, 5}, api.ErrRange},
		"two of them are out":        {[]int{1000000000, -1000000000}, api.ErrRange},
		"the last of 256 is too big": {append(repeat(1, 255), 1000000000), api.ErrRange},
	}
}
