package algebra

import (
	"math"
	"math/big"
	"slices"
	"testing"

	"talisman/api"
)

func factorial(n int64) *big.Int {
	return new(big.Int).MulRange(1, n)
}

func TestCheckPerm(t *testing.T) { // P1.2
	for _, row := range []struct {
		p []int
		e api.Errno
	}{
		{nil, api.OK}, {[]int{}, api.OK}, {[]int{0}, api.OK}, {[]int{1, 0}, api.OK}, {identity(256), api.OK}, {reversed(256), api.OK},
		{[]int{1}, api.ErrPerm}, {[]int{-1}, api.ErrPerm}, {[]int{0, 0}, api.ErrPerm}, {[]int{0, 2}, api.ErrPerm}, {[]int{1, 2, 3}, api.ErrPerm},
		{[]int{0, math.MaxInt}, api.ErrPerm}, {[]int{math.MinInt, 0}, api.ErrPerm}, {make([]int, 256), api.ErrPerm},
		{identity(257), api.ErrMany}, {make([]int, 257), api.ErrMany},
	} {
		want(t, "CheckPerm", CheckPerm(row.p), row.e)
	}
}

func TestPermutationErrors(t *testing.T) { // P1.2
	for _, row := range []struct {
		p []int
		e api.Errno
	}{{[]int{0, 0}, api.ErrPerm}, {identity(257), api.ErrMany}} {
		q, e := Invert(row.p)
		want(t, "Invert", [2]any{len(q), e}, [2]any{0, row.e})
		q, e = Power(row.p, 0)
		want(t, "Power", [2]any{len(q), e}, [2]any{0, row.e})
		c, e := Cycles(row.p)
		want(t, "Cycles", [2]any{len(c), e}, [2]any{0, row.e})
		s, e := Sign(row.p)
		want(t, "Sign", [2]any{s, e}, [2]any{0, row.e})
		r, e := Rank(row.p)
		want(t, "Rank", [2]any{r, e}, [2]any{api.Rat(""), row.e})
	}
	for _, row := range []struct {
		p, q []int
		e    api.Errno
	}{
		{[]int{0, 1}, []int{0}, api.ErrShape}, {nil, []int{0}, api.ErrShape}, {[]int{1}, identity(257), api.ErrPerm},
		{identity(257), []int{1}, api.ErrMany}, {[]int{0, 1}, []int{1}, api.ErrPerm}, {[]int{0}, identity(257), api.ErrMany},
	} {
		r, e := Compose(row.p, row.q)
		want(t, "Compose", [2]any{len(r), e}, [2]any{0, row.e})
	}
}

func TestPermutationExamples(t *testing.T) { // P1.2
	p := []int{1, 2, 0, 4, 3}
	cycles, e := Cycles(p)
	want(t, "Cycles", [2]any{cycles, e}, [2]any{[][]int{{0, 1, 2}, {3, 4}}, api.OK})
	cycles, _ = Cycles([]int{0, 3, 2, 1})
	want(t, "Cycles with elements alone", cycles, [][]int{{0}, {1, 3}, {2}})
	cycles, _ = Cycles([]int{3, 0, 1, 2})
	want(t, "a cycle of all", cycles, [][]int{{0, 3, 2, 1}})
	cycles, e = Cycles(nil)
	want(t, "Cycles of nothing", [2]any{len(cycles), e}, [2]any{0, api.OK})
	inverse, _ := Invert(p)
	want(t, "Invert", inverse, []int{2, 0, 1, 4, 3})
	both, _ := Compose(p, inverse)
	want(t, "Compose with the inverse", both, identity(5))
	both, _ = Compose(p, []int{1, 0, 2, 3, 4})
	want(t, "Compose", both, []int{2, 1, 0, 4, 3})
	for k, wanted := range map[int][]int{
		-1: {2, 0, 1, 4, 3}, 0: identity(5), 1: p, 2: {2, 0, 1, 3, 4}, 3: {0, 1, 2, 4, 3}, 6: identity(5), 7: p, -5: p,
		math.MaxInt: {1, 2, 0, 4, 3}, math.MinInt: {1, 2, 0, 3, 4}, // 1 and 4 modulo 6
	} {
		power, e := Power(p, k)
		want(t, "Power", [2]any{power, e}, [2]any{wanted, api.OK})
	}
	want(t, "p after use", p, []int{1, 2, 0, 4, 3})
	for _, f := range []func([]int) ([]int, api.Errno){Invert, func(p []int) ([]int, api.Errno) { return Power(p, -3) }, func(p []int) ([]int, api.Errno) { return Compose(p, p) }} {
		q, e := f(nil)
		want(t, "of no elements", [2]any{len(q), e}, [2]any{0, api.OK})
	}
	sign, e := Sign(nil)
	want(t, "Sign of no elements", [2]any{sign, e}, [2]any{1, api.OK})
}

// signByPairs counts the pairs as the definition does.
func signByPairs(p []int) int {
	sign := 1
	for k := range p {
		for i := range k {
			if p[i] > p[k] {
				sign = -sign
			}
		}
	}
	return sign
}

func TestAllSmallPermutations(t *testing.T) { // P1.2
	for n := range 6 {
		for place, p := range permutations(n) {
			sign, _ := Sign(p)
			want(t, "Sign", sign, signByPairs(p))
			rank, e := Rank(p)
			wanted, _ := Of(place, 1)
			want(t, "Rank", [2]any{rank, e}, [2]any{wanted, api.OK})
			q, e := Unrank(n, rank)
			want(t, "Unrank", e, api.OK)
			wantList(t, "Unrank", q, p)
			power := identity(n)
			for k := range 8 {
				got, _ := Power(p, k)
				wantList(t, "Power", got, power)
				back, _ := Power(p, -k)
				inverse, _ := Invert(power)
				wantList(t, "Power of the inverse", back, inverse)
				power, _ = Compose(p, power)
			}
		}
	}
}

func TestCyclesAreStoppedEarly(t *testing.T) { // P1.2
	for cycle := range cyclesOf([]int{0, 1, 2}) {
		want(t, "the first cycle", cycle, []int{0})
		break
	}
}

func TestRankOfLongPermutations(t *testing.T) { // P1.2
	last := new(big.Int).Sub(factorial(256), big.NewInt(1))
	rank, e := Rank(reversed(256))
	want(t, "Rank", [2]any{string(rank), e}, [2]any{last.String(), api.OK})
	p, e := Unrank(256, rank)
	want(t, "Unrank", [2]any{p, e}, [2]any{reversed(256), api.OK})
	p, e = Unrank(256, api.Rat(factorial(256).String()))
	want(t, "Unrank of 256!", [2]any{len(p), e}, [2]any{0, api.ErrRange})
	p, e = Unrank(255, rank)
	want(t, "Unrank for fewer elements", [2]any{len(p), e}, [2]any{0, api.ErrRange})
	p, _ = Unrank(256, "1")
	swapped := identity(256)
	swapped[254], swapped[255] = 255, 254
	want(t, "Unrank of 1", p, swapped)
	third := new(big.Int).Div(last, big.NewInt(3))
	p, _ = Unrank(256, api.Rat(third.String()))
	rank, _ = Rank(p)
	want(t, "Rank of Unrank", string(rank), third.String())
}

func TestUnrankErrors(t *testing.T) { // P1.2
	for _, row := range []struct {
		n    int
		rank api.Rat
		e    api.Errno
	}{
		{4, "23", api.OK}, {4, "24", api.ErrRange}, {0, "0", api.OK}, {0, "1", api.ErrRange}, {1, "0", api.OK}, {1, "1", api.ErrRange},
		{3, "-1", api.ErrRange}, {3, "1/2", api.ErrRange}, {3, "-1/2", api.ErrRange}, {256, "0", api.OK}, {257, "0", api.ErrRange}, {-1, "0", api.ErrRange},
		{3, "2/2", api.ErrForm}, {3, "", api.ErrForm}, {3, "06", api.ErrForm}, {3, digits("9", 601), api.ErrLarge}, {3, digits("9", 600), api.ErrRange},
		{-1, "2/2", api.ErrRange}, {257, "", api.ErrRange}, {math.MinInt, digits("9", 601), api.ErrRange}, {math.MaxInt, "0", api.ErrRange},
	} {
		p, e := Unrank(row.n, row.rank)
		want(t, "error of Unrank of "+string(row.rank), e, row.e)
		if e != api.OK && len(p) > 0 {
			t.Errorf("Unrank of %d and %s: %v beside an error", row.n, row.rank, p)
		}
	}
}

func TestPermutationResultsShareNoMemory(t *testing.T) { // P1.2
	p := []int{1, 2, 0, 4, 3}
	cycles, _ := Cycles(p)
	for _, cycle := range cycles {
		cycle = append(cycle, -1)
		cycle[0] = -1
	}
	again, _ := Cycles(p)
	want(t, "Cycles", again, [][]int{{0, 1, 2}, {3, 4}})
	power, _ := Power(p, 1)
	both, _ := Compose(p, identity(5))
	inverse, _ := Invert(identity(5))
	slices.Reverse(power)
	slices.Reverse(both)
	slices.Reverse(inverse)
	want(t, "p", p, []int{1, 2, 0, 4, 3})
}
