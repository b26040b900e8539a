package count

import (
	"math/big"
	"slices"
	"testing"

	"talisman/api"
)

// setsOf returns the sets of numbers from 1 to n, in lexicographic order.
func setsOf(n int) [][]int {
	var all [][]int
	for bits := range 1 << n {
		set := []int{}
		for x := 1; x <= n; x++ {
			if bits>>(x-1)&1 == 1 {
				set = append(set, x)
			}
		}
		all = append(all, set)
	}
	slices.SortFunc(all, slices.Compare)
	return all
}

func TestSetExamples(t *testing.T) { // P7.1
	l, e := Sets(9, 3, 15)
	wantLists(t, "Sets", l, e, [][]int{{1, 5, 9}, {1, 6, 8}, {2, 4, 9}, {2, 5, 8}, {2, 6, 7}, {3, 4, 8}, {3, 5, 7}, {4, 5, 6}}, api.OK)
	n, e := SetCount(9, 3, 15)
	wantNumber(t, "SetCount", n, e, 8, api.OK)
	for _, size := range []int{0, 3, 64} {
		l, e = Sets(size, 0, 0)
		wantLists(t, "Sets of the size 0", l, e, [][]int{{}}, api.OK)
		n, e = SetCount(size, 0, 0)
		wantNumber(t, "SetCount of the size 0", n, e, 1, api.OK)
	}
	l, e = Sets(64, 64, 2080)
	want(t, "the set of all numbers", []any{len(l), len(l[0]), l[0][0], l[0][63], e}, []any{1, 64, 1, 64, api.OK})
}

func TestSets(t *testing.T) { // P7.1: all sets of up to 8 numbers
	for n := range 9 {
		all := setsOf(n)
		for size := range n + 1 {
			for sum := -2; sum <= n*(n+1)/2+2; sum++ {
				var wanted [][]int
				for _, set := range all {
					s := 0
					for _, x := range set {
						s += x
					}
					if len(set) == size && s == sum {
						wanted = append(wanted, set)
					}
				}
				l, e := Sets(n, size, sum)
				wantLists(t, "Sets", l, e, wanted, api.OK)
				number, e := SetCount(n, size, sum)
				wantNumber(t, "SetCount", number, e, len(wanted), api.OK)
			}
		}
	}
}

func TestSetCounts(t *testing.T) { // P7.1: the sets of a size add up to a binomial coefficient
	for _, n := range []int{16, 40, 63, 64} {
		for _, size := range []int{0, 1, 2, n / 2, n - 1, n} {
			all := new(big.Int)
			for sum := range n*(n+1)/2 + 1 {
				number, e := SetCount(n, size, sum)
				want(t, "error of SetCount", e, api.OK)
				all.Add(all, big.NewInt(int64(number)))
			}
			want(t, "all sets", all.String(), new(big.Int).Binomial(int64(n), int64(size)).String())
		}
	}
	n, e := SetCount(16, 4, 34) // the lines that a magic square of order 4 may have
	wantNumber(t, "SetCount of the order 4", n, e, 86, api.OK)
	n, e = SetCount(64, 32, 540) // the partitions of 12
	wantNumber(t, "SetCount near the least sum", n, e, 77, api.OK)
}

func TestSetsWithoutSums(t *testing.T) { // P7.1: sums that no set has
	for _, sum := range []int{-1 << 63, -1, 0, 2, 8, 1<<63 - 1} {
		l, e := Sets(4, 2, sum)
		wantLists(t, "Sets", l, e, nil, api.OK)
		n, e := SetCount(4, 2, sum)
		wantNumber(t, "SetCount", n, e, 0, api.OK)
	}
	for _, sum := range []int{-1, 1} {
		l, e := Sets(4, 0, sum)
		wantLists(t, "Sets of the size 0", l, e, nil, api.OK)
	}
}

func TestSetErrors(t *testing.T) { // P7.1
	for _, bad := range [][3]int{{-1, 0, 0}, {65, 1, 1}, {1<<63 - 1, 1, 1}, {-1 << 63, 0, 0}, {4, 5, 1}, {4, -1, 0}, {0, 1, 1}, {9, 1<<63 - 1, 0}, {9, -1 << 63, 0}, {-3, -3, 0}} {
		l, e := Sets(bad[0], bad[1], bad[2])
		wantLists(t, "Sets", l, e, nil, api.ErrRange)
		n, e := SetCount(bad[0], bad[1], bad[2])
		wantNumber(t, "SetCount", n, e, 0, api.ErrRange)
	}
}

func TestManySets(t *testing.T) { // P7.1: up to 1024 sets
	for _, few := range [][3]int{{24, 8, 61}, {24, 8, 139}, {24, 16, 161}} {
		n, e := SetCount(few[0], few[1], few[2])
		wantNumber(t, "SetCount", n, e, 1024, api.OK)
		l, e := Sets(few[0], few[1], few[2])
		want(t, "1024 sets", []any{len(l), e}, []any{1024, api.OK})
		want(t, "they ascend", slices.IsSortedFunc(l, slices.Compare), true)
	}
	for _, many := range [][3]int{{35, 4, 68}, {35, 31, 554}, {64, 32, 1040}} {
		l, e := Sets(many[0], many[1], many[2])
		wantLists(t, "too many sets", l, e, nil, api.ErrMany)
	}
	n, e := SetCount(35, 4, 68)
	wantNumber(t, "SetCount", n, e, 1025, api.OK)
}
