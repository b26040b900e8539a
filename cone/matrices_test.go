package cone

import (
	"math/rand"
	"slices"
	"testing"

	"talisman/api"
)

// permutationsOf returns the permutations of n in lexicographic order.
func permutationsOf(n int) [][]int {
	var all [][]int
	for _, p := range words(n, max(n-1, 0)) {
		sorted := slices.Clone(p)
		slices.Sort(sorted)
		if slices.Equal(sorted, upTo(n)) {
			all = append(all, p)
		}
	}
	return all
}

// cloned returns a matrix that shares no memory with m.
func cloned(m [][]int) [][]int {
	var rows [][]int
	for _, row := range m {
		rows = append(rows, append([]int{}, row...))
	}
	return rows
}

// birkhoffOf returns the terms as they are defined.
func birkhoffOf(m [][]int) []Term {
	rest := cloned(m)
	var terms []Term
search:
	for {
		for _, p := range permutationsOf(len(m)) {
			least := api.MaxNumber
			for i, k := range p {
				least = min(least, rest[i][k])
			}
			if least > 0 && len(m) > 0 {
				for i, k := range p {
					rest[i][k] -= least
				}
				terms = append(terms, Term{p, least})
				continue search
			}
		}
		return terms
	}
}

// mixed returns a matrix of order n that is a sum of some permutation matrices.
func mixed(random *rand.Rand, n, number, most int) [][]int {
	m := make([][]int, n)
	for i := range m {
		m[i] = make([]int, n)
	}
	for range number {
		times := 1 + random.Intn(most)
		for i, k := range random.Perm(n) {
			m[i][k] += times
		}
	}
	return m
}

func TestBirkhoffExamples(t *testing.T) { // P8.4
	for _, row := range []struct {
		m     [][]int
		terms []Term
	}{
		{nil, nil},
		{[][]int{}, nil},
		{[][]int{{0}}, nil},
		{[][]int{{7}}, []Term{{[]int{0}, 7}}},
		{[][]int{{999999999}}, []Term{{[]int{0}, 999999999}}},
		{[][]int{{0, 0}, {0, 0}}, nil},
		{[][]int{{0, 3}, {3, 0}}, []Term{{[]int{1, 0}, 3}}},
		{[][]int{{2, 1, 0}, {0, 2, 1}, {1, 0, 2}}, []Term{{[]int{0, 1, 2}, 2}, {[]int{1, 2, 0}, 1}}},
		{[][]int{{0, 1, 1}, {1, 0, 1}, {1, 1, 0}}, []Term{{[]int{1, 2, 0}, 1}, {[]int{2, 0, 1}, 1}}},
	} {
		terms, e := Birkhoff(row.m)
		wantList(t, "Birkhoff", terms, e, row.terms, api.OK)
	}
	terms, e := Birkhoff([][]int{{2, 7, 6}, {9, 5, 1}, {4, 3, 8}})
	want(t, "Birkhoff of a magic square", []any{terms[:1], e}, []any{[]Term{{[]int{0, 1, 2}, 2}}, api.OK})
}

func TestBirkhoff(t *testing.T) { // P8.4: compared with all permutations
	random := rand.New(rand.NewSource(100))
	for range 300 {
		m := mixed(random, random.Intn(6), random.Intn(8), 9)
		before := cloned(m)
		terms, e := Birkhoff(m)
		wantList(t, "Birkhoff", terms, e, birkhoffOf(m), api.OK)
		want(t, "the matrix", cloned(m), before)
		want(t, "CheckBirkhoff", CheckBirkhoff(m, terms), api.OK)
	}
}

func TestLargeMatrices(t *testing.T) { // P8.4: up to order 16
	random := rand.New(rand.NewSource(101))
	for _, number := range []int{0, 1, 5, 16, 40, 400} {
		for _, n := range []int{1, 7, 15, 16} {
			m := mixed(random, n, number, 2000000)
			terms, e := Birkhoff(m)
			want(t, "error of Birkhoff", e, api.OK)
			want(t, "CheckBirkhoff", CheckBirkhoff(m, terms), api.OK)
			want(t, "the number of terms", len(terms) <= (n-1)*(n-1)+1, true)
			zeros := 0
			rest := cloned(m)
			for _, term := range terms {
				least := api.MaxNumber
				for i, k := range term.Perm {
					least = min(least, rest[i][k])
					rest[i][k] -= term.Times
				}
				want(t, "the least number is taken away", least, term.Times)
			}
			for _, row := range rest {
				for _, x := range row {
					zeros += min(x*x, 1)
				}
			}
			want(t, "nothing is left", zeros, 0)
		}
	}
	full := make([][]int, 16)
	for i := range full {
		full[i] = repeat(999999999, 16)
	}
	terms, e := Birkhoff(full)
	want(t, "Birkhoff of the greatest matrix", []any{len(terms), terms[0], terms[15].Times, e}, []any{16, Term{upTo(16), 999999999}, 999999999, api.OK})
	want(t, "CheckBirkhoff of the greatest matrix", CheckBirkhoff(full, terms), api.OK)
}

// badMatrix is a matrix with its error.
type badMatrix struct {
	m [][]int
	e api.Errno
}

// badMatrices returns matrices with an error, which they have before another one.
func badMatrices() map[string]badMatrix {
	return map[string]badMatrix{
		"17 rows":                     {make([][]int, 17), api.ErrMany},
		"17 full rows":                {mixed(rand.New(rand.NewSource(1)), 17, 3, 3), api.ErrMany},
		"rows without numbers":        {make([][]int, 3), api.ErrShape},
		"a row with too few":          {[][]int{{1, 2}, {-2}}, api.ErrShape},
		"a row with too many":         {[][]int{{-1, 2}, {2, 1, 0}}, api.ErrShape},
		"a negative number":           {[][]int{{-1, 2}, {2, -1}}, api.ErrRange},
		"a number that is too great":  {[][]int{{1, 2}, {2, 1000000000}}, api.ErrRange},
		"the greatest number":         {[][]int{{1<<63 - 1}}, api.ErrRange},
		"different rows":              {[][]int{{1, 2}, {2, 2}}, api.ErrSum},
		"rows equal, columns not":     {[][]int{{1, 2}, {1, 2}}, api.ErrSum},
		"columns equal, rows not":     {[][]int{{1, 1}, {2, 2}}, api.ErrSum},
		"the last row":                {[][]int{{1, 0, 0}, {0, 1, 0}, {0, 0, 2}}, api.ErrSum},
		"a sum of rows, not of lines": {[][]int{{1, 1, 1}, {1, 1, 1}, {2, 1, 0}}, api.ErrSum},
	}
}

func TestMatrixErrors(t *testing.T) { // P8.4
	for name, b := range badMatrices() {
		terms, e := Birkhoff(b.m)
		wantList(t, "Birkhoff of "+name, terms, e, nil, b.e)
		want(t, "CheckBirkhoff of "+name, CheckBirkhoff(b.m, make([]Term, 400)), b.e)
	}
}

func TestCheckBirkhoff(t *testing.T) { // P8.4
	m := [][]int{{2, 1, 0}, {0, 2, 1}, {1, 0, 2}}
	identity, shift := []int{0, 1, 2}, []int{1, 2, 0}
	for _, row := range []struct {
		what  string
		m     [][]int
		terms []Term
		e     api.Errno
	}{
		{"the terms", m, []Term{{identity, 2}, {shift, 1}}, api.OK},
		{"the other order", m, []Term{{shift, 1}, {identity, 2}}, api.OK},
		{"one permutation twice", m, []Term{{identity, 1}, {shift, 1}, {identity, 1}}, api.OK},
		{"other terms", [][]int{{1, 1, 1}, {1, 1, 1}, {1, 1, 1}}, []Term{{[]int{0, 2, 1}, 1}, {[]int{1, 0, 2}, 1}, {[]int{2, 1, 0}, 1}}, api.OK},
		{"a term that is missing", m, []Term{{shift, 1}}, api.ErrProof},
		{"no terms", m, nil, api.ErrProof},
		{"too much", m, []Term{{identity, 3}, {shift, 1}}, api.ErrProof},
		{"too little", m, []Term{{identity, 1}, {shift, 1}}, api.ErrProof},
		{"a wrong permutation", m, []Term{{identity, 2}, {[]int{2, 0, 1}, 1}}, api.ErrProof},
		{"columns for rows", [][]int{{0, 1, 0}, {0, 0, 1}, {1, 0, 0}}, []Term{{[]int{2, 0, 1}, 1}}, api.ErrProof},
		{"no permutation", m, []Term{{identity, 2}, {[]int{1, 1, 0}, 0}, {identity, 0}}, api.ErrPerm},
		{"a permutation of 2", m, []Term{{[]int{1, 0}, 2}}, api.ErrPerm},
		{"a permutation of 4", m, []Term{{[]int{1, 0, 2, 3}, 2}}, api.ErrPerm},
		{"no list", m, []Term{{nil, 2}}, api.ErrPerm},
		{"an element that is none", m, []Term{{[]int{0, 1, 3}, 1}}, api.ErrPerm},
		{"a negative element", m, []Term{{[]int{0, 1, -1}, 1}}, api.ErrPerm},
		{"no times", m, []Term{{shift, 0}, {nil, 1}}, api.ErrRange},
		{"negative times", m, []Term{{identity, 3}, {identity, -1}, {shift, 1}}, api.ErrRange},
		{"too many times", m, []Term{{identity, 1000000000}}, api.ErrRange},
		{"the greatest number", m, []Term{{identity, 1<<63 - 1}}, api.ErrRange},
		{"six terms", m, make([]Term, 6), api.ErrMany},
		{"five bad terms", m, make([]Term, 5), api.ErrPerm},
		{"five terms", [][]int{{5, 0, 0}, {0, 5, 0}, {0, 0, 5}}, slices.Repeat([]Term{{identity, 1}}, 5), api.OK},
		{"six good terms", [][]int{{6, 0, 0}, {0, 6, 0}, {0, 0, 6}}, slices.Repeat([]Term{{identity, 1}}, 6), api.ErrMany},
		{"nothing at all", nil, nil, api.OK},
		{"a term for no rows", nil, make([]Term, 1), api.ErrMany},
		{"one row", [][]int{{3}}, []Term{{[]int{0}, 3}}, api.OK},
		{"one row, two terms", [][]int{{3}}, []Term{{[]int{0}, 2}, {[]int{0}, 1}}, api.ErrMany},
		{"a row of 0", [][]int{{0}}, nil, api.OK},
		{"a row of 0 and a term", [][]int{{0}}, []Term{{[]int{0}, 1}}, api.ErrProof},
		{"two rows, two terms", [][]int{{1, 2}, {2, 1}}, []Term{{[]int{1, 0}, 2}, {[]int{0, 1}, 1}}, api.OK},
	} {
		want(t, "CheckBirkhoff of "+row.what, CheckBirkhoff(row.m, row.terms), row.e)
	}
}
