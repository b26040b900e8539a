package count

import (
	"math/rand"
	"slices"
	"testing"

	"talisman/api"
	"talisman/lines"
)

func TestBoundsExamples(t *testing.T) { // P7.2
	least, greatest, e := Bounds(square())
	want(t, "Bounds of squares", []any{least, greatest, e}, []any{14, 16, api.OK})
	least, greatest, e = Bounds(rowsAndColumns())
	want(t, "Bounds of semimagic squares", []any{least, greatest, e}, []any{15, 15, api.OK})
	least, greatest, e = Bounds(system(2, []int{0}, []int{1}))
	want(t, "Bounds that cross", []any{least, greatest, e}, []any{2, 1, api.OK})
	least, greatest, e = Bounds(system(5, []int{2, 3}))
	want(t, "Bounds of one line", []any{least, greatest, e}, []any{3, 9, api.OK})
	pan, _ := lines.SquareSystem("pandiagonal", 16)
	least, greatest, e = Bounds(pan)
	want(t, "Bounds of 256 cells", []any{least, greatest, e}, []any{2056, 2056, api.OK})
	least, greatest, e = Bounds(system(256, []int{255}))
	want(t, "Bounds of one cell of 256", []any{least, greatest, e}, []any{1, 256, api.OK})
}

// boundsOf tries all ways to give the numbers to the degrees.
func boundsOf(s api.System) (int, int) {
	var sums []int
	for _, f := range permutations(s.Cells) {
		sum := 0
		for _, line := range s.Lines {
			sum += total(f, line)
		}
		sums = append(sums, sum)
	}
	least, greatest := slices.Min(sums), slices.Max(sums)
	for least%len(s.Lines) != 0 {
		least++
	}
	for greatest%len(s.Lines) != 0 {
		greatest--
	}
	return least / len(s.Lines), greatest / len(s.Lines)
}

func TestBounds(t *testing.T) { // P7.2
	for _, s := range someSystems(70, 100, 6) {
		least, greatest, e := Bounds(s)
		if len(s.Lines) == 0 {
			want(t, "Bounds without lines", []any{least, greatest, e}, []any{0, 0, api.ErrEmpty})
			continue
		}
		low, high := boundsOf(s)
		want(t, "Bounds", []any{least, greatest, e}, []any{low, high, api.OK})
	}
}

func TestFillingExamples(t *testing.T) { // P7.2
	n, e := Total(square())
	wantNumber(t, "Total", n, e, 8, api.OK)
	x, e := Spectrum(square())
	wantList(t, "Spectrum", x, e, [][2]int{{15, 8}}, api.OK)
	l, e := Fillings(square(), 15)
	wantLists(t, "Fillings", l, e, [][]int{{2, 7, 6, 9, 5, 1, 4, 3, 8}, {2, 9, 4, 7, 5, 3, 6, 1, 8}, {4, 3, 8, 9, 5, 1, 2, 7, 6}, {4, 9, 2, 3, 5, 7, 8, 1, 6}, {6, 1, 8, 7, 5, 3, 2, 9, 4}, {6, 7, 2, 1, 5, 9, 8, 3, 4}, {8, 1, 6, 3, 5, 7, 4, 9, 2}, {8, 3, 4, 1, 5, 9, 6, 7, 2}}, api.OK)
	d, e := Distribution(square(), 15)
	corner, side := []int{0, 2, 0, 2, 0, 2, 0, 2, 0}, []int{2, 0, 2, 0, 0, 0, 2, 0, 2}
	wantLists(t, "Distribution", d, e, [][]int{corner, side, corner, side, {0, 0, 0, 0, 8, 0, 0, 0, 0}, side, corner, side, corner}, api.OK)
	x, e = Spectrum(system(3, []int{0, 1}, []int{1, 2}))
	wantList(t, "Spectrum without fillings", x, e, nil, api.OK)
	x, e = Spectrum(pairs())
	wantList(t, "Spectrum of pairs", x, e, [][2]int{{5, 8}}, api.OK)
	l, _ = Fillings(pairs(), 5)
	want(t, "the first filling of pairs", l[0], []int{1, 4, 2, 3})
	n, e = Total(rowsAndColumns())
	wantNumber(t, "Total of semimagic squares", n, e, 72, api.OK)
	n, e = Total(system(9))
	wantNumber(t, "Total of 9 cells without lines", n, e, 362880, api.OK)
	x, e = Spectrum(system(9, upTo(9)))
	wantList(t, "Spectrum of one line with all cells", x, e, [][2]int{{45, 362880}}, api.OK)
}

func TestFillings(t *testing.T) { // P7.2: small systems, compared with all fillings
	filled, empty, several := 0, 0, 0
	for _, s := range someSystems(71, 150, 6) {
		all := magicOf(s)
		n, e := Total(s)
		wantNumber(t, "Total", n, e, len(all), api.OK)
		if len(s.Lines) == 0 {
			continue
		}
		bySum := map[int][][]int{}
		for _, f := range all {
			sum := total(f, s.Lines[0])
			bySum[sum] = append(bySum[sum], f)
		}
		var spectrum [][2]int
		for sum := -1; sum <= 40; sum++ {
			if len(bySum[sum]) > 0 {
				spectrum = append(spectrum, [2]int{sum, len(bySum[sum])})
			}
			wantFillings(t, s, sum, bySum[sum])
		}
		x, e := Spectrum(s)
		wantList(t, "Spectrum", x, e, spectrum, api.OK)
		switch len(spectrum) {
		case 0:
			empty++
		case 1:
			filled++
		default:
			several++
		}
	}
	want(t, "all kinds happened", min(filled, empty, several) > 5, true)
}

// wantFillings compares Fillings and Distribution with a list of fillings.
func wantFillings(t *testing.T, s api.System, sum int, all [][]int) {
	t.Helper()
	l, e := Fillings(s, sum)
	wantLists(t, "Fillings", l, e, all, api.OK)
	counts := make([][]int, s.Cells)
	for cell := range counts {
		for x := 1; x <= s.Cells; x++ {
			number := 0
			for _, f := range all {
				if f[cell] == x {
					number++
				}
			}
			counts[cell] = append(counts[cell], number)
		}
	}
	d, e := Distribution(s, sum)
	wantLists(t, "Distribution", d, e, counts, api.OK)
}

func TestFillingsWithoutLines(t *testing.T) { // P7.2: whatever the sum is
	for _, sum := range []int{-1 << 63, -1, 0, 1, 7, 1<<63 - 1} {
		for cells := 1; cells <= 6; cells++ {
			wantFillings(t, system(cells), sum, permutations(cells))
		}
		d, e := Distribution(system(8), sum)
		want(t, "Distribution of 8 cells", []any{len(d), d[7], e}, []any{8, repeat(5040, 8), api.OK})
	}
	wantFillings(t, pairs(), 1<<63-1, nil)
	wantFillings(t, pairs(), -1<<63, nil)
}

func TestLargerSystems(t *testing.T) { // P7.2: of 8 and 9 cells, compared with all fillings
	random := rand.New(rand.NewSource(72))
	for _, cells := range []int{8, 9, 9} {
		s := system(cells)
		f := random.Perm(cells)
		for len(s.Lines) < 3 {
			line := someLine(random, cells)
			isNew := !slices.ContainsFunc(s.Lines, func(other []int) bool { return slices.Equal(line, other) })
			if isNew && (len(s.Lines) == 0 || len(line) == len(s.Lines[0]) && total(f, line) == total(f, s.Lines[0])) {
				s.Lines = append(s.Lines, line)
			}
		}
		all := magicOf(s)
		n, e := Total(s)
		wantNumber(t, "Total", n, e, len(all), api.OK)
		want(t, "there are fillings", n > 0, true)
	}
}

func TestManyFillings(t *testing.T) { // P7.2: up to 1024 fillings
	l, e := Fillings(system(7), 0)
	wantLists(t, "5040 fillings", l, e, nil, api.ErrMany)
	l, e = Fillings(system(9), 0)
	wantLists(t, "362880 fillings", l, e, nil, api.ErrMany)
	for _, s := range []api.System{system(7, []int{0, 1, 2}), system(7, []int{0, 1, 2}, []int{4, 5, 6}), system(8, []int{0, 3}), system(9, []int{0, 1, 2, 3}, []int{5, 6, 7, 8})} {
		x, _ := Spectrum(s)
		few, many := 0, 0
		for _, pair := range x {
			l, e := Fillings(s, pair[0])
			if pair[1] > 1024 {
				wantLists(t, "too many fillings", l, e, nil, api.ErrMany)
				many++
				continue
			}
			want(t, "Fillings", []any{len(l), e}, []any{pair[1], api.OK})
			few++
		}
		want(t, "there are few or many", few+many, len(x))
	}
}

func TestNearlyTooManyFillings(t *testing.T) { // P7.2: systems with numbers near 1024
	l, e := Fillings(system(9, []int{0, 6, 7, 8}, []int{1, 2, 3, 5, 7}), 19)
	want(t, "1008 fillings", []any{len(l), e}, []any{1008, api.OK})
	want(t, "they ascend", slices.IsSortedFunc(l, slices.Compare), true)
	for _, s := range []api.System{system(9, []int{0, 2, 3, 6}, []int{1, 2, 4, 5, 6, 7}), system(9, []int{0, 2, 3, 5, 7, 8}, []int{1, 2, 5, 6, 8})} {
		x, _ := Spectrum(s)
		many := 0
		for _, pair := range x {
			if pair[1] == 1056 || pair[1] == 1080 {
				l, e := Fillings(s, pair[0])
				wantLists(t, "1056 or 1080 fillings", l, e, nil, api.ErrMany)
				many++
			}
		}
		want(t, "there is such a sum", many > 0, true)
	}
}

func TestFillingErrors(t *testing.T) { // P7.2
	bad := badSystems()
	for name, b := range bad {
		least, greatest, e := Bounds(b.s)
		want(t, "Bounds of "+name, []any{least, greatest, e}, []any{0, 0, b.e})
	}
	bad["10 cells without lines"] = badSystem{system(10), api.ErrLimit}
	bad["10 cells with a line"] = badSystem{system(10, []int{0}), api.ErrLimit}
	bad["256 cells"] = badSystem{system(256, []int{0}), api.ErrLimit}
	for name, b := range bad {
		n, e := Total(b.s)
		wantNumber(t, "Total of "+name, n, e, 0, b.e)
		x, e := Spectrum(b.s)
		wantList(t, "Spectrum of "+name, x, e, nil, b.e)
		l, e := Fillings(b.s, 15)
		wantLists(t, "Fillings of "+name, l, e, nil, b.e)
		l, e = Distribution(b.s, 15)
		wantLists(t, "Distribution of "+name, l, e, nil, b.e)
	}
	x, e := Spectrum(system(9))
	wantList(t, "Spectrum without lines", x, e, nil, api.ErrEmpty)
	for _, cells := range []int{1, 9, 10, 256} {
		least, greatest, e := Bounds(system(cells))
		want(t, "Bounds without lines", []any{least, greatest, e}, []any{0, 0, api.ErrEmpty})
	}
}
