package count

import (
	"slices"
	"testing"

	"talisman/api"
)

// boundedOf returns the number of bounded fillings with a sum, one by one.
func boundedOf(s api.System, most, sum int) int {
	number := 0
	for _, f := range words(s.Cells, most) {
		if isMagicOf(s, f, sum) {
			number++
		}
	}
	return number
}

// halvesOf returns what the bounded fillings of the first cells contribute, one by one.
func halvesOf(s api.System, cut, most int) ([][]int, []int) {
	var all [][]int
	for _, word := range words(cut, most) {
		all = append(all, sumsOf(s, append(word, make([]int, s.Cells-cut)...)))
	}
	slices.SortFunc(all, slices.Compare)
	var numbers []int
	for i, list := range all {
		if i == 0 || !slices.Equal(list, all[i-1]) {
			numbers = append(numbers, 0)
		}
		numbers[len(numbers)-1]++
	}
	return slices.CompactFunc(all, slices.Equal), numbers
}

// wantHalves compares Halves with lists and numbers.
func wantHalves(t *testing.T, s api.System, cut, most int, lists [][]int, numbers []int) {
	t.Helper()
	l, n, e := Halves(s, cut, most)
	wantLists(t, "Halves", l, e, lists, api.OK)
	want(t, "their numbers", n, numbers)
}

func TestHalfExamples(t *testing.T) { // P7.3
	n, e := Bounded(pairs(), 2, 2)
	wantNumber(t, "Bounded", n, e, 9, api.OK)
	wantHalves(t, pairs(), 1, 2, [][]int{{0, 0}, {1, 0}, {2, 0}}, []int{1, 1, 1})
	wantHalves(t, pairs(), 2, 1, [][]int{{0, 0}, {1, 0}, {2, 0}}, []int{1, 2, 1})
	wantHalves(t, pairs(), 0, 9, [][]int{{0, 0}}, []int{1})
	n, e = Bounded(square(), 1, 1)
	wantNumber(t, "Bounded of squares", n, e, 0, api.OK)
	n, e = Bounded(rowsAndColumns(), 1, 1)
	wantNumber(t, "Bounded of permutation matrices", n, e, 6, api.OK)
	n, e = Bounded(rowsAndColumns(), 4, 4) // all matrices with the sum r are (r+1)(r+2)(r^2+3r+4)/8
	wantNumber(t, "Bounded of matrices", n, e, 120, api.OK)
	n, e = Bounded(system(10, upTo(10)), 9, 45)
	wantNumber(t, "Bounded of ten digits", n, e, 432457640, api.OK)
	n, e = Bounded(system(16, upTo(16)), 3, 48)
	wantNumber(t, "Bounded with the greatest numbers", n, e, 1, api.OK)
	n, e = Bounded(system(16), 3, 0)
	wantNumber(t, "Bounded of 16 cells without lines", n, e, 1<<32, api.OK)
}

func TestBounded(t *testing.T) { // P7.3: compared with the fillings one by one
	for _, s := range someSystems(74, 120, 6) {
		for most := range 4 {
			for sum := -1; sum <= most*s.Cells+1; sum++ {
				n, e := Bounded(s, most, sum)
				wantNumber(t, "Bounded", n, e, boundedOf(s, most, sum), api.OK)
			}
		}
	}
}

func TestHalves(t *testing.T) { // P7.3: compared with the fillings one by one
	for _, s := range someSystems(75, 120, 6) {
		for cut := range s.Cells + 1 {
			for most := range 4 {
				lists, numbers := halvesOf(s, cut, most)
				wantHalves(t, s, cut, most, lists, numbers)
			}
		}
	}
}

func TestBoundedSums(t *testing.T) { // P7.3: sums that no filling has, and systems without lines
	for _, sum := range []int{-1 << 63, -1<<63 + 5, -256, -1, 9, 256, 257, 1<<32 + 2, 1<<63 - 1} {
		n, e := Bounded(pairs(), 2, sum)
		wantNumber(t, "Bounded", n, e, 0, api.OK)
		n, e = Bounded(system(3), 4, sum)
		wantNumber(t, "Bounded without lines", n, e, 125, api.OK)
	}
	wantHalves(t, system(3), 2, 4, [][]int{{}}, []int{25})
	wantHalves(t, system(3, []int{2}), 2, 4, [][]int{{0}}, []int{25})
}

func TestManyLines(t *testing.T) { // P7.3: 128 lines
	s := system(8)
	for bits := 255; len(s.Lines) < 128; bits-- {
		var line []int
		for cell := range 8 {
			if bits>>cell&1 == 1 {
				line = append(line, cell)
			}
		}
		s.Lines = append(s.Lines, line)
	}
	lists, numbers := halvesOf(s, 8, 2)
	wantHalves(t, s, 8, 2, lists, numbers)
	for sum := range 3 {
		n, e := Bounded(s, 9, sum)
		wantNumber(t, "Bounded", n, e, boundedOf(s, 2, sum), api.OK)
	}
}

func TestHalfErrors(t *testing.T) { // P7.3
	for name, b := range badSystems() {
		n, e := Bounded(b.s, -1, 1)
		wantNumber(t, "Bounded of "+name, n, e, 0, b.e)
		l, m, e := Halves(b.s, -1, 10)
		wantLists(t, "Halves of "+name, l, e, nil, b.e)
		want(t, "their numbers", len(m), 0)
	}
	for _, bad := range []struct {
		cells, cut, most int
		e, bounded       api.Errno
	}{
		{17, 18, -1, api.ErrLimit, api.ErrLimit},
		{17, 0, 0, api.ErrLimit, api.ErrLimit},
		{16, 0, -1, api.ErrRange, api.ErrRange},
		{16, 16, 10, api.ErrRange, api.ErrRange},
		{16, 16, 1<<63 - 1, api.ErrRange, api.ErrRange},
		{16, 0, -1 << 63, api.ErrRange, api.ErrRange},
		{4, 5, 1, api.ErrRange, api.OK},
		{4, -1, 9, api.ErrRange, api.OK},
		{16, 17, 9, api.ErrRange, api.ErrLimit},
		{16, 1<<63 - 1, 1, api.ErrRange, api.OK},
		{16, -1 << 63, 1, api.ErrRange, api.OK},
		{16, 16, 1, api.OK, api.OK},
		{16, 16, 2, api.ErrLimit, api.OK},
		{16, 8, 3, api.OK, api.OK},
		{16, 8, 4, api.ErrLimit, api.ErrLimit},
		{15, 8, 4, api.ErrLimit, api.ErrLimit},
		{14, 7, 4, api.OK, api.OK},
		{10, 5, 9, api.OK, api.OK},
		{10, 6, 9, api.ErrLimit, api.OK},
		{12, 6, 6, api.ErrLimit, api.ErrLimit},
		{11, 6, 9, api.ErrLimit, api.ErrLimit},
		{16, 16, 9, api.ErrLimit, api.ErrLimit},
		{16, 0, 9, api.OK, api.ErrLimit},
		{16, 16, 0, api.OK, api.OK},
	} {
		s := system(bad.cells, []int{0})
		l, m, e := Halves(s, bad.cut, bad.most)
		want(t, "error of Halves", e, bad.e)
		want(t, "Halves has results", []bool{len(l) > 0, len(m) > 0}, []bool{e == api.OK, e == api.OK})
		n, e := Bounded(s, bad.most, 0)
		want(t, "error of Bounded", e, bad.bounded)
		want(t, "Bounded has a result", n > 0, e == api.OK)
	}
}
