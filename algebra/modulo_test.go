package algebra

import (
	"math"
	"math/rand"
	"slices"
	"testing"

	"talisman/api"
)

func TestModuloExamples(t *testing.T) { // P1.4
	m := [][]int{{1, 2}, {3, 4}}
	for _, row := range []struct {
		m      [][]int
		p      int
		rank   int
		kernel [][]int
		e      api.Errno
	}{
		{m, 2, 1, [][]int{{0, 1}}, api.OK}, {m, 3, 2, nil, api.OK}, {m, 999999937, 2, nil, api.OK},
		{[][]int{{1, -1, 5}}, 3, 1, [][]int{{1, 0, 1}, {0, 1, 2}}, api.OK}, {nil, 2, 0, nil, api.OK}, {[][]int{{}}, 2, 0, nil, api.OK},
		{[][]int{{-6, 9}}, 3, 0, [][]int{{1, 0}, {0, 1}}, api.OK},
		{[][]int{{999999936, 999999935}}, 999999937, 1, [][]int{{1, 499999968}}, api.OK},
		{[][]int{{-999999999, 999999999}}, 2, 1, [][]int{{1, 1}}, api.OK},
		{m, 4, 0, nil, api.ErrPrime}, {m, 1, 0, nil, api.ErrPrime}, {m, 0, 0, nil, api.ErrPrime}, {m, -3, 0, nil, api.ErrPrime}, {m, 999999999, 0, nil, api.ErrPrime},
		{m, 1000000007, 0, nil, api.ErrPrime}, {m, math.MinInt, 0, nil, api.ErrPrime}, {m, math.MaxInt, 0, nil, api.ErrPrime}, {nil, 1, 0, nil, api.ErrPrime},
		{[][]int{{1000000000}}, 4, 0, nil, api.ErrRange}, {[][]int{{-1000000000}}, 2, 0, nil, api.ErrRange}, {[][]int{{math.MinInt}}, 2, 0, nil, api.ErrRange},
		{[][]int{{1}, {}}, 4, 0, nil, api.ErrShape}, {[][]int{{1}, {}, {1000000000}}, 4, 0, nil, api.ErrShape}, {[][]int{{1000000000}, {}}, 4, 0, nil, api.ErrRange},
		{make([][]int, 257), 4, 0, nil, api.ErrMany}, {[][]int{make([]int, 257)}, 4, 0, nil, api.ErrMany}, {[][]int{{}, make([]int, 257)}, 2, 0, nil, api.ErrMany},
	} {
		r, e := RankModulo(row.m, row.p)
		want(t, "RankModulo", [2]any{r, e}, [2]any{row.rank, row.e})
		k, e := KernelModulo(row.m, row.p)
		want(t, "error of KernelModulo", e, row.e)
		wantList(t, "KernelModulo", k, row.kernel)
	}
}

// annihilated lists all lists of n integers below p, in lexicographic order, whose products with all rows are 0.
func annihilated(m [][]int, p, n int) [][]int {
	var found [][]int
	var extend func(x []int)
	extend = func(x []int) {
		if len(x) < n {
			for value := range p {
				extend(append(x, value))
			}
			return
		}
		for _, row := range m {
			sum := 0
			for i, value := range row {
				sum += value * x[i]
			}
			if sum%p != 0 {
				return
			}
		}
		found = append(found, slices.Clone(x))
	}
	extend(nil)
	return found
}

// spanned lists the sums of multiples of some lists modulo p, in lexicographic order.
func spanned(lists [][]int, p, n int) [][]int {
	sums := [][]int{make([]int, n)}
	for _, list := range lists {
		var more [][]int
		for _, sum := range sums {
			for factor := range p {
				next := slices.Clone(sum)
				for i, x := range list {
					next[i] = (next[i] + factor*x) % p
				}
				more = append(more, next)
			}
		}
		sums = more
	}
	slices.SortFunc(sums, slices.Compare)
	return sums
}

func TestModuloAgainstAllLists(t *testing.T) { // P1.4
	random := rand.New(rand.NewSource(8))
	for range 600 {
		p := []int{2, 3, 5}[random.Intn(3)]
		n := random.Intn(5)
		m := someIntegers(random, random.Intn(4)+1, n, 9)
		kernel, e := KernelModulo(m, p)
		want(t, "error of KernelModulo", e, api.OK)
		if !slices.EqualFunc(spanned(kernel, p, n), annihilated(m, p, n), slices.Equal) {
			t.Errorf("KernelModulo of %v modulo %d: %v", m, p, kernel)
		}
		for _, list := range kernel {
			for _, x := range list {
				if x < 0 || x >= p {
					t.Errorf("KernelModulo of %v: %v", m, kernel)
				}
			}
		}
		if !isReduced(asRats(kernel)) {
			t.Errorf("KernelModulo of %v: %v is not reduced", m, kernel)
		}
		rank, e := RankModulo(m, p)
		want(t, "RankModulo", [2]any{rank, e}, [2]any{n - len(kernel), api.OK})
	}
}
