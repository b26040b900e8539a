package cone

import (
	"math/rand"
	"slices"
	"testing"

	"talisman/api"
)

func TestCheckCone(t *testing.T) { // P8.1
	for name, b := range badSystems() {
		want(t, "CheckCone of "+name, CheckCone(b.s), b.e)
	}
	for _, s := range []api.System{two(), three(), magic(), exact(), system(1, []int{0}), system(12, upTo(12)), system(12, subsets(12)...)} {
		want(t, "CheckCone of a system", CheckCone(s), api.OK)
	}
}

func TestSum(t *testing.T) { // P8.1
	for _, row := range []struct {
		f   []int
		sum int
		e   api.Errno
	}{
		{[]int{1, 2, 2, 1}, 3, api.OK},
		{[]int{0, 0, 0, 0}, 0, api.OK},
		{[]int{999999999, 999999999, 999999999, 999999999}, 1999999998, api.OK},
		{nil, 0, api.ErrShape},
		{[]int{1, 2, 2}, 0, api.ErrShape},
		{[]int{1, 2, 2, -1, 0}, 0, api.ErrShape},
		{[]int{-1, 2, 2, -1}, 0, api.ErrRange},
		{[]int{1, 2, 2, -1}, 0, api.ErrRange},
		{[]int{1000000000, 0, 0, 1000000000}, 0, api.ErrRange},
		{[]int{1, 2, 3, 1 << 62}, 0, api.ErrRange},
		{[]int{1, 2, 2, 2}, 0, api.ErrSum},
		{[]int{1, 2, 1, 2}, 0, api.ErrSum},
	} {
		n, e := Sum(two(), row.f)
		wantNumber(t, "Sum", n, e, row.sum, row.e)
	}
	n, e := Sum(system(12, upTo(12)), repeat(999999999, 12))
	wantNumber(t, "the greatest Sum", n, e, 11999999988, api.OK)
	n, e = Sum(system(2, []int{0}, []int{0, 1}), []int{7, 0})
	wantNumber(t, "Sum of one cell", n, e, 7, api.OK)
}

func TestCountExamples(t *testing.T) { // P8.1
	for sum := range 25 {
		n, e := Count(two(), sum)
		wantNumber(t, "Count of order 2", n, e, sum+1, api.OK)
		n, e = Positive(two(), sum)
		wantNumber(t, "Positive of order 2", n, e, max(sum-1, 0), api.OK)
		l, e := List(two(), sum)
		var wanted [][]int
		for a := range sum + 1 {
			wanted = append(wanted, []int{a, sum - a, sum - a, a})
		}
		wantList(t, "List of order 2", l, e, wanted, api.OK)
		c := sum / 3
		fillings := 2*c*c + 2*c + 1
		if sum%3 > 0 {
			fillings = 0
		}
		n, e = Count(magic(), sum)
		wantNumber(t, "Count of magic squares", n, e, fillings, api.OK)
	}
	l, e := List(magic(), 3)
	wantList(t, "List of magic squares", l, e, [][]int{
		{0, 2, 1, 2, 1, 0, 1, 0, 2}, {1, 0, 2, 2, 1, 0, 0, 2, 1}, {1, 1, 1, 1, 1, 1, 1, 1, 1}, {1, 2, 0, 0, 1, 2, 2, 0, 1}, {2, 0, 1, 0, 1, 2, 1, 2, 0},
	}, api.OK)
	n, e := Positive(magic(), 6)
	wantNumber(t, "Positive of magic squares", n, e, 5, api.OK)
	n, e = Count(three(), 24) // MacMahon: 3 (t + 3 over 4) + (t + 2 over 2)
	wantNumber(t, "Count of order 3", n, e, 3*17550+325, api.OK)
}

func TestCounts(t *testing.T) { // P8.1: compared with all lists of numbers
	several := 0
	for _, s := range someSystems(90, 150, 5) {
		all := words(s.Cells, 6)
		for sum := range 7 {
			var with [][]int
			positive := 0
			for _, f := range all {
				if isFilling(s, f, sum) {
					with = append(with, f)
					positive += min(slices.Min(f), 1)
				}
			}
			n, e := Count(s, sum)
			wantNumber(t, "Count", n, e, len(with), api.OK)
			n, e = Positive(s, sum)
			wantNumber(t, "Positive", n, e, positive, api.OK)
			l, e := List(s, sum)
			wantList(t, "List", l, e, with, api.OK)
			if sum > 0 && len(with) > 1 && positive > 0 {
				several++
			}
		}
	}
	want(t, "several fillings happened", several > 100, true)
}

func TestManyCells(t *testing.T) { // P8.1: numbers that are known
	n, e := Count(system(12, upTo(12)), 24)
	wantNumber(t, "24 in 12 cells", n, e, 417225900, api.OK)
	n, e = Positive(system(12, upTo(12)), 24)
	wantNumber(t, "24 in 12 cells without 0", n, e, 1352078, api.OK)
	n, e = Count(system(12, []int{0, 1, 2, 3}, []int{4, 5, 6, 7}, []int{8, 9, 10, 11}), 24)
	wantNumber(t, "three lines", n, e, 2925*2925*2925, api.OK)
	s := system(12)
	for k := range 6 {
		s.Lines = append(s.Lines, []int{k, 6 + k})
	}
	n, e = Count(s, 24)
	wantNumber(t, "six lines that cross in the order of cells", n, e, 25*25*25*25*25*25, api.OK)
	n, e = Positive(s, 24)
	wantNumber(t, "these without 0", n, e, 23*23*23*23*23*23, api.OK)
	n, e = Count(system(12, subsets(12)...), 24)
	wantNumber(t, "a cell a line", n, e, 1, api.OK)
	// Both lines together are the third one: only 0 has such sums.
	none := system(4, []int{0, 1}, []int{2, 3}, []int{0, 1, 2, 3})
	for sum, wanted := range []int{1, 0, 0, 0} {
		n, e = Count(none, sum)
		wantNumber(t, "contradicting lines", n, e, wanted, api.OK)
		n, e = Positive(none, sum)
		wantNumber(t, "contradicting lines without 0", n, e, 0, api.OK)
	}
}

func TestCountsOfManyCells(t *testing.T) { // P8.1: compared with a search that looks at the lines alone
	random := rand.New(rand.NewSource(91))
	several := 0
	for range 150 {
		s := someSystem(random, 6+random.Intn(4), 8)
		for sum := range 5 {
			all := searched(s, sum)
			positive := 0
			for _, f := range all {
				positive += min(slices.Min(f), 1)
			}
			n, e := Count(s, sum)
			wantNumber(t, "Count", n, e, len(all), api.OK)
			n, e = Positive(s, sum)
			wantNumber(t, "Positive", n, e, positive, api.OK)
			l, e := List(s, sum)
			if len(all) > 256 {
				wantList(t, "List of many", l, e, nil, api.ErrMany)
			} else {
				wantList(t, "List", l, e, all, api.OK)
			}
			if len(all) > 1 {
				several++
			}
		}
	}
	want(t, "several fillings happened", several > 100, true)
}

func TestListsOfMany(t *testing.T) { // P8.1: up to 256
	for _, row := range []struct {
		s   api.System
		sum int
		n   int
	}{
		{system(4, []int{0, 1}, []int{2, 3}), 15, 256},
		{system(4, []int{0, 1}, []int{2, 3}), 16, 289},
		{system(9, []int{0, 2, 3, 4, 5, 6}, []int{0, 3, 4, 5, 6, 7}, []int{0, 1, 3, 4, 6, 8}, []int{0, 1, 3, 5, 6, 8}, []int{0, 1, 2, 3, 6, 7}), 11, 257},
		{system(3, []int{0, 1, 2}), 21, 253},
		{system(3, []int{0, 1, 2}), 22, 276},
		{three(), 4, 120},
		{three(), 5, 231},
		{three(), 6, 406},
	} {
		n, e := Count(row.s, row.sum)
		wantNumber(t, "Count", n, e, row.n, api.OK)
		l, e := List(row.s, row.sum)
		if row.n > 256 {
			wantList(t, "List of many", l, e, nil, api.ErrMany)
		} else {
			want(t, "List", []any{len(l), e}, []any{row.n, api.OK})
		}
	}
}

func TestFillingErrors(t *testing.T) { // P8.1
	for name, b := range badSystems() {
		n, e := Sum(b.s, nil)
		wantNumber(t, "Sum of "+name, n, e, 0, b.e)
		for _, sum := range []int{3, -1, 25} {
			n, e = Count(b.s, sum)
			wantNumber(t, "Count of "+name, n, e, 0, b.e)
			n, e = Positive(b.s, sum)
			wantNumber(t, "Positive of "+name, n, e, 0, b.e)
			l, e := List(b.s, sum)
			wantList(t, "List of "+name, l, e, nil, b.e)
		}
	}
	for sum, code := range map[int]api.Errno{-1: api.ErrRange, -1 << 63: api.ErrRange, 25: api.ErrLimit, 1<<63 - 1: api.ErrLimit} {
		n, e := Count(two(), sum)
		wantNumber(t, "Count of a bad sum", n, e, 0, code)
		n, e = Positive(two(), sum)
		wantNumber(t, "Positive of a bad sum", n, e, 0, code)
		l, e := List(two(), sum)
		wantList(t, "List of a bad sum", l, e, nil, code)
	}
}
