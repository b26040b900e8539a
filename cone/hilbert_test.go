package cone

import (
	"math/rand"
	"slices"
	"testing"

	"talisman/api"
)

func TestHilbertExamples(t *testing.T) { // P8.2
	for _, row := range []struct {
		what  string
		s     api.System
		basis [][]int
	}{
		{"order 2", two(), [][]int{{0, 1, 1, 0}, {1, 0, 0, 1}}},
		{"magic squares", magic(), [][]int{{0, 2, 1, 2, 1, 0, 1, 0, 2}, {1, 0, 2, 2, 1, 0, 0, 2, 1}, {1, 1, 1, 1, 1, 1, 1, 1, 1}, {1, 2, 0, 0, 1, 2, 2, 0, 1}, {2, 0, 1, 0, 1, 2, 1, 2, 0}}},
		{"one cell", system(1, []int{0}), [][]int{{1}}},
		{"a cell that is 0", system(2, []int{0}, []int{0, 1}), [][]int{{1, 0}}},
		{"one line", system(3, []int{0, 1, 2}), [][]int{{0, 0, 1}, {0, 1, 0}, {1, 0, 0}}},
		{"even sums", system(3, []int{0, 1}, []int{0, 2}, []int{1, 2}), [][]int{{1, 1, 1}}},
		{"even sums in a cell", system(4, []int{0, 1}, []int{0, 2}, []int{1, 2}, []int{3}), [][]int{{1, 1, 1, 2}}},
		{"a sum and its double", system(4, []int{0, 1}, []int{2, 3}, []int{0, 1, 2, 3}), nil},
		{"more of one sort", system(4, []int{0, 3}, []int{1, 3}, []int{2, 3}, []int{0, 1, 2}), [][]int{{1, 1, 1, 2}}},
	} {
		h, e := Hilbert(row.s)
		wantList(t, "Hilbert of "+row.what, h, e, row.basis, api.OK)
	}
	h, e := Hilbert(system(12, []int{0, 1, 2}, []int{3, 4, 5}, []int{6, 7, 8}, []int{9, 10, 11}))
	want(t, "Hilbert of four lines", []any{len(h), e}, []any{81, api.OK})
	h, e = Hilbert(system(12, subsets(12)...))
	wantList(t, "Hilbert of a cell a line", h, e, [][]int{repeat(1, 12)}, api.OK)
	h, e = Hilbert(system(12, upTo(12)))
	want(t, "Hilbert of 12 cells on a line", []any{len(h), e}, []any{12, api.OK})
}

func TestHilbert(t *testing.T) { // P8.2: compared with all fillings
	several := 0
	for _, s := range someSystems(92, 200, 7) {
		wanted := irreducibleOf(fillingsOf(s, 5))
		h, e := Hilbert(s)
		want(t, "error of Hilbert", e, api.OK)
		want(t, "Hilbert ascends", slices.IsSortedFunc(h, slices.Compare), true)
		small := slices.DeleteFunc(slices.Clone(h), func(f []int) bool { return total(f, s.Lines[0]) > 5 })
		wantList(t, "Hilbert", small, e, wanted, api.OK)
		for _, f := range h {
			want(t, "an irreducible filling", isFilling(s, f, total(f, s.Lines[0])), true)
		}
		if len(h) > 3 {
			several++
		}
	}
	want(t, "several elements happened", several > 50, true)
}

func TestSmallBases(t *testing.T) { // P8.2: compared with all fillings up to a sum above those of the elements
	for _, row := range []struct {
		s    api.System
		sums []int
	}{
		{system(7, []int{5, 6}, []int{1, 4}, []int{2, 4}, []int{2, 3}, []int{0, 1, 2, 6}, []int{0, 1, 2, 5}), []int{4, 2}},
		{system(7, []int{2, 4, 6}, []int{4, 5, 6}, []int{0, 3, 4}, []int{1, 4, 5}, []int{0, 1, 6}, []int{2, 3, 5}), []int{6, 3, 6}},
		{system(8, []int{0, 6, 7}, []int{0, 1, 5}, []int{0, 2, 5}, []int{3, 5, 6}, []int{3, 4, 5}, []int{3, 5, 7}, []int{1, 2, 7}), []int{3, 7, 5}},
		{system(8, []int{2, 4, 6, 7}, []int{1, 4, 5, 6}, []int{1, 2, 3, 5}, []int{1, 3, 6, 7}, []int{0, 1, 3, 7}, []int{0, 3, 5, 7}), []int{1, 5, 3, 5}},
		{system(8, []int{0, 1, 2, 4, 7}, []int{0, 3, 4, 6, 7}, []int{0, 1, 3, 5, 6}, []int{1, 2, 3, 4, 6}, []int{2, 3, 4, 5, 6}, []int{0, 4, 5, 6, 7}, []int{0, 2, 5, 6, 7}), []int{7, 5, 8}},
	} {
		h, e := Hilbert(row.s)
		var sums []int
		for _, f := range h {
			sums = append(sums, total(f, row.s.Lines[0]))
		}
		wantList(t, "sums of Hilbert", sums, e, row.sums, api.OK)
		var all [][]int
		for sum := range slices.Max(row.sums) + 2 {
			l, e := List(row.s, sum)
			want(t, "error of List", e, api.OK)
			all = append(all, l...)
		}
		slices.SortFunc(all, slices.Compare)
		wantList(t, "Hilbert", h, e, irreducibleOf(all), api.OK)
	}
}

func TestHilbertOfManyCells(t *testing.T) { // P8.2: compared with a search
	random := rand.New(rand.NewSource(93))
	several, others := 0, 0
	for range 300 {
		s := someSystem(random, 7+random.Intn(4), 9)
		h, e := Hilbert(s)
		want(t, "error of Hilbert", e, api.OK)
		if len(h) < 4 {
			continue
		}
		all := fillingsOf(s, 3)
		if len(all) > 1000 {
			continue
		}
		wanted := irreducibleOf(all)
		small := slices.DeleteFunc(slices.Clone(h), func(f []int) bool { return total(f, s.Lines[0]) > 3 })
		wantList(t, "Hilbert", small, e, wanted, api.OK)
		several++
		if r, _ := Rays(s); len(h) > len(r) {
			others++
		}
	}
	want(t, "several elements happened", several > 50, true)
	want(t, "elements that are no rays happened", others > 3, true)
}

func TestLargeBases(t *testing.T) { // P8.2: up to 256 elements
	h, e := Hilbert(exact())
	want(t, "Hilbert with 256 elements", []any{len(h), e}, []any{256, api.OK})
	want(t, "irreducible fillings", len(irreducibleOf(h)), 256)
	f := added(h[0], h[255])
	l, e := Decompose(exact(), h[100])
	want(t, "Decompose of the element 100", []any{len(l), slices.Index(l, 1), slices.Max(l), e}, []any{256, 100, 1, api.OK})
	l, e = Decompose(exact(), f)
	want(t, "Decompose with 256 elements", []any{len(l), e}, []any{256, api.OK})
	want(t, "CheckSum with 256 elements", CheckSum(exact(), f, l), api.OK)
	for _, s := range []api.System{more(), most()} {
		h, e = Hilbert(s)
		wantList(t, "Hilbert of many", h, e, nil, api.ErrMany)
		l, e = Decompose(s, repeat(0, 12))
		wantList(t, "Decompose of many", l, e, nil, api.ErrMany)
		want(t, "CheckSum of many", CheckSum(s, repeat(0, 12), nil), api.ErrMany)
		want(t, "errors of CheckSum before it", CheckSum(s, repeat(0, 11), nil), api.ErrShape)
		l, e = Decompose(s, repeat(-1, 12))
		wantList(t, "errors of Decompose before it", l, e, nil, api.ErrRange)
		is, e := IsIrreducible(s, repeat(0, 12))
		wantTruth(t, "IsIrreducible of many", is, e, false, api.OK)
		f, e = Split(s, repeat(0, 12))
		wantList(t, "Split of many", f, e, nil, api.ErrNone)
	}
	// Of 7776 irreducible fillings, 432 have the sum 18.
	found, e := List(most(), 18)
	wantList(t, "List of many", found, e, nil, api.ErrMany)
	n, e := Count(most(), 18)
	wantNumber(t, "Count of the least sum", n, e, 432, api.OK)
}

func TestLargeSums(t *testing.T) { // P8.2: irreducible fillings with sums far above 24
	s := system(12, []int{1, 4, 7, 8, 11}, []int{1, 3, 4, 6, 7, 9, 10}, []int{0, 3, 4, 5, 6, 7, 11}, []int{1, 2, 3, 5, 7, 10}, []int{0, 1, 2, 3, 4, 10, 11}, []int{2, 4, 5, 6, 8, 10}, []int{0, 2, 4, 7, 8, 9}, []int{0, 1, 3, 5, 8, 9, 10, 11}, []int{2, 3, 6, 7, 8, 9, 10, 11}, []int{1, 2, 3, 4, 5, 9, 11}, []int{0, 1, 2, 6, 8})
	h, e := Hilbert(s)
	want(t, "Hilbert", []any{len(h), e}, []any{6, api.OK})
	want(t, "they are irreducible", len(irreducibleOf(h)), 6)
	greatest := 0
	for k, f := range h {
		n, e := Sum(s, f)
		want(t, "error of Sum", e, api.OK)
		greatest = max(greatest, n)
		is, e := IsIrreducible(s, f)
		code := api.OK
		if n > 24 {
			code = api.ErrLimit
		}
		wantTruth(t, "IsIrreducible", is, e, n <= 24, code)
		times := make([]int, 6)
		times[k] = 1000000
		g := make([]int, 12)
		for i, x := range f {
			g[i] = x * 1000000
		}
		want(t, "CheckSum", CheckSum(s, g, times), api.OK)
		times[k]--
		want(t, "CheckSum of one less", CheckSum(s, g, times), api.ErrProof)
	}
	want(t, "the greatest sum", greatest, 805)
}

func TestSplitExamples(t *testing.T) { // P8.2
	for _, row := range []struct {
		s  api.System
		f  []int
		is bool
		g  []int
		e  api.Errno
	}{
		{two(), []int{1, 1, 1, 1}, false, []int{0, 1, 1, 0}, api.OK},
		{two(), []int{0, 2, 2, 0}, false, []int{0, 1, 1, 0}, api.OK},
		{two(), []int{24, 0, 0, 24}, false, []int{1, 0, 0, 1}, api.OK},
		{two(), []int{0, 1, 1, 0}, true, nil, api.ErrNone},
		{two(), []int{0, 0, 0, 0}, false, nil, api.ErrNone},
		{magic(), repeat(1, 9), true, nil, api.ErrNone},
		{magic(), repeat(2, 9), false, []int{0, 2, 1, 2, 1, 0, 1, 0, 2}, api.OK},
		{magic(), []int{2, 7, 6, 9, 5, 1, 4, 3, 8}, false, []int{0, 2, 1, 2, 1, 0, 1, 0, 2}, api.OK},
		{system(4, []int{0, 1}, []int{0, 2}, []int{1, 2}, []int{3}), []int{1, 1, 1, 2}, true, nil, api.ErrNone},
	} {
		is, e := IsIrreducible(row.s, row.f)
		wantTruth(t, "IsIrreducible", is, e, row.is, api.OK)
		g, e := Split(row.s, row.f)
		wantList(t, "Split", g, e, row.g, row.e)
	}
}

// decomposedOf returns the lexicographically greatest list of how often fillings add up to f.
func decomposedOf(basis [][]int, f []int) ([]int, bool) {
	if len(basis) == 0 {
		return nil, isZero(f)
	}
	for times := slices.Max(f); times >= 0; times-- {
		rest := slices.Clone(f)
		for i, x := range basis[0] {
			rest[i] -= times * x
		}
		if slices.Min(rest) < 0 {
			continue
		}
		if further, found := decomposedOf(basis[1:], rest); found {
			return append([]int{times}, further...), true
		}
	}
	return nil, false
}

func TestSplits(t *testing.T) { // P8.2: of all fillings, compared with all pairs of them
	split := 0
	for _, s := range someSystems(94, 80, 4) {
		all := fillingsOf(s, 5)
		h, e := Hilbert(s)
		want(t, "error of Hilbert", e, api.OK)
		for _, f := range all {
			var part []int
			for _, g := range all {
				if part == nil && isPartOf(g, f) && !isZero(g) && !slices.Equal(f, g) {
					part = g
				}
			}
			is, e := IsIrreducible(s, f)
			wantTruth(t, "IsIrreducible", is, e, part == nil && !isZero(f), api.OK)
			code := api.OK
			if part == nil {
				code = api.ErrNone
			} else {
				split++
			}
			g, e := Split(s, f)
			wantList(t, "Split", g, e, part, code)
			wanted, found := decomposedOf(h, f)
			want(t, "there is a sum", found, true)
			l, e := Decompose(s, f)
			wantList(t, "Decompose", l, e, wanted, api.OK)
			want(t, "CheckSum", CheckSum(s, f, l), api.OK)
		}
	}
	want(t, "parts happened", split > 300, true)
}

func TestDecomposeExamples(t *testing.T) { // P8.2
	for _, row := range []struct {
		s     api.System
		f     []int
		times []int
	}{
		{two(), []int{2, 3, 3, 2}, []int{3, 2}},
		{two(), []int{0, 0, 0, 0}, []int{0, 0}},
		{two(), []int{12, 12, 12, 12}, []int{12, 12}},
		{two(), []int{24, 0, 0, 24}, []int{0, 24}},
		{magic(), repeat(2, 9), []int{1, 0, 0, 0, 1}},
		{magic(), repeat(1, 9), []int{0, 0, 1, 0, 0}},
		{magic(), repeat(3, 9), []int{1, 0, 1, 0, 1}},
		{system(4, []int{0, 1}, []int{2, 3}, []int{0, 1, 2, 3}), repeat(0, 4), nil},
	} {
		l, e := Decompose(row.s, row.f)
		wantList(t, "Decompose", l, e, row.times, api.OK)
	}
}

func TestCheckSum(t *testing.T) { // P8.2
	for _, row := range []struct {
		s     api.System
		f     []int
		times []int
		e     api.Errno
	}{
		{magic(), repeat(2, 9), []int{1, 0, 0, 0, 1}, api.OK},
		{magic(), repeat(2, 9), []int{0, 0, 2, 0, 0}, api.OK},
		{magic(), repeat(2, 9), []int{0, 1, 0, 1, 0}, api.OK},
		{magic(), repeat(2, 9), []int{0, 1, 1, 1, 0}, api.ErrProof},
		{magic(), repeat(2, 9), []int{1, 0, 1, 0, 0}, api.ErrProof},
		{magic(), repeat(2, 9), repeat(0, 5), api.ErrProof},
		{magic(), repeat(2, 9), []int{1, 0, 0, -1}, api.ErrShape},
		{magic(), repeat(2, 9), []int{1, 0, 0, 0, 1, 0}, api.ErrShape},
		{magic(), repeat(2, 9), nil, api.ErrShape},
		{magic(), repeat(2, 9), []int{0, 0, 0, 0, -1}, api.ErrRange},
		{magic(), repeat(2, 9), []int{1000000000, 0, 0, 0, 0}, api.ErrRange},
		{magic(), repeat(2, 8), nil, api.ErrShape},
		{magic(), repeat(-2, 9), nil, api.ErrRange},
		{magic(), upTo(9), nil, api.ErrSum},
		{magic(), repeat(0, 9), repeat(0, 5), api.OK},
		{two(), repeat(999999999, 4), repeat(999999999, 2), api.OK},
		{two(), repeat(999999999, 4), []int{999999999, 999999998}, api.ErrProof},
		{two(), []int{1, 0, 0, 1}, []int{1, 0}, api.ErrProof},
		{system(4, []int{0, 1}, []int{2, 3}, []int{0, 1, 2, 3}), repeat(0, 4), nil, api.OK},
		{system(4, []int{0, 1}, []int{2, 3}, []int{0, 1, 2, 3}), repeat(0, 4), []int{0}, api.ErrShape},
	} {
		want(t, "CheckSum", CheckSum(row.s, row.f, row.times), row.e)
	}
}

func TestBasisErrors(t *testing.T) { // P8.2
	for name, b := range badSystems() {
		wantBasisErrors(t, name, b.s, nil, b.e)
		h, e := Hilbert(b.s)
		wantList(t, "Hilbert of "+name, h, e, nil, b.e)
		h, e = Rays(b.s)
		wantList(t, "Rays of "+name, h, e, nil, b.e)
		n, e := Dimension(b.s)
		wantNumber(t, "Dimension of "+name, n, e, 0, b.e)
	}
	wantBasisErrors(t, "no numbers", two(), nil, api.ErrShape)
	wantBasisErrors(t, "5 numbers", two(), []int{-1, 1, 2, 3, 4}, api.ErrShape)
	wantBasisErrors(t, "a negative number", two(), []int{3, -1, 2, 3}, api.ErrRange)
	wantBasisErrors(t, "a number too great", two(), []int{1000000000, 0, 0, 1000000000}, api.ErrRange)
	wantBasisErrors(t, "different sums", two(), []int{20, 20, 20, 21}, api.ErrSum)
	for _, f := range [][]int{{20, 5, 5, 20}, {0, 25, 25, 0}, repeat(999999999, 4)} {
		is, e := IsIrreducible(two(), f)
		wantTruth(t, "IsIrreducible of a great sum", is, e, false, api.ErrLimit)
		g, e := Split(two(), f)
		wantList(t, "Split of a great sum", g, e, nil, api.ErrLimit)
		l, e := Decompose(two(), f)
		wantList(t, "Decompose of a great sum", l, e, nil, api.ErrLimit)
	}
}

// wantBasisErrors calls what has a filling as an argument.
func wantBasisErrors(t *testing.T, what string, s api.System, f []int, code api.Errno) {
	t.Helper()
	is, e := IsIrreducible(s, f)
	wantTruth(t, "IsIrreducible of "+what, is, e, false, code)
	is, e = IsRay(s, f)
	wantTruth(t, "IsRay of "+what, is, e, false, code)
	g, e := Split(s, f)
	wantList(t, "Split of "+what, g, e, nil, code)
	g, e = Decompose(s, f)
	wantList(t, "Decompose of "+what, g, e, nil, code)
	want(t, "CheckSum of "+what, CheckSum(s, f, []int{-1}), code)
}
