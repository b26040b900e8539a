package count

import (
	"math/rand"
	"slices"
	"sync"
	"testing"

	"talisman/api"
	"talisman/group"
)

func TestSpectraAndTotals(t *testing.T) { // P7.6
	for _, s := range append(someSystems(80, 150, 7), square(), rowsAndColumns()) {
		if len(s.Lines) == 0 {
			continue
		}
		x, e := Spectrum(s)
		want(t, "error of Spectrum", e, api.OK)
		least, greatest, e := Bounds(s)
		want(t, "error of Bounds", e, api.OK)
		all := 0
		for _, pair := range x {
			all += pair[1]
			want(t, "the sum is within the bounds", least <= pair[0] && pair[0] <= greatest, true)
			d, e := Distribution(s, pair[0])
			want(t, "error of Distribution", e, api.OK)
			for cell := range s.Cells {
				row, column := 0, 0
				for k := range s.Cells {
					row, column = row+d[cell][k], column+d[k][cell]
				}
				want(t, "each cell has each filling's number, each number its cells", []int{row, column}, []int{pair[1], pair[1]})
			}
		}
		n, e := Total(s)
		wantNumber(t, "Total", n, e, all, api.OK)
	}
}

func TestSymmetricSpectra(t *testing.T) { // P7.6: of systems whose lines have equally many cells
	random := rand.New(rand.NewSource(81))
	several := 0
	for range 60 {
		s := system(3 + random.Intn(4))
		size := 1 + random.Intn(3)
		for range 1 + random.Intn(3) {
			line := random.Perm(s.Cells)[:size]
			slices.Sort(line)
			if !slices.ContainsFunc(s.Lines, func(other []int) bool { return slices.Equal(line, other) }) {
				s.Lines = append(s.Lines, line)
			}
		}
		x, e := Spectrum(s)
		want(t, "error of Spectrum", e, api.OK)
		for k, pair := range x {
			mirrored := x[len(x)-1-k]
			want(t, "the spectrum is symmetric", mirrored, [2]int{size*(s.Cells+1) - pair[0], pair[1]})
		}
		if len(x) > 1 {
			several++
		}
	}
	want(t, "several sums happened", several > 20, true)
}

func TestComplementarySets(t *testing.T) { // P7.6
	for _, n := range []int{0, 1, 5, 16, 64} {
		for size := range n + 1 {
			for sum := -1; sum <= n*(n+1)/2+1; sum += 1 + n/4 {
				number, e := SetCount(n, size, sum)
				rest, other := SetCount(n, n-size, n*(n+1)/2-sum)
				want(t, "the sets of the other numbers", []any{rest, other}, []any{number, e})
				turned, other := SetCount(n, size, size*(n+1)-sum)
				want(t, "the sets of the complements", []any{turned, other}, []any{number, e})
			}
		}
	}
}

func TestClassSizes(t *testing.T) { // P7.6
	for _, x := range someClosed() {
		classes, e := Classes(x.l, x.list)
		want(t, "error of Classes", e, api.OK)
		all := 0
		for _, class := range classes {
			all += class.Size
			want(t, "the size divides the order", len(x.l)%class.Size, 0)
			least, e := group.Canonical(x.l, class.Filling)
			wantList(t, "the least image", least, e, class.Filling, api.OK)
		}
		want(t, "the sizes add up", all, len(x.list))
		fixed, e := Fixed(x.l, x.list)
		want(t, "error of Fixed", e, api.OK)
		left := 0
		for _, number := range fixed {
			left += number
		}
		n, e := ClassCount(x.l, x.list)
		wantNumber(t, "ClassCount times the order", n*len(x.l), e, left, api.OK)
	}
}

func TestKeysOfImages(t *testing.T) { // P7.6: no symmetry that keeps the system changes the key
	random := rand.New(rand.NewSource(82))
	for _, s := range append(someSystems(83, 40, 6), square()) {
		l, _ := group.Automorphisms(s)
		f := random.Perm(s.Cells)
		for i := range f {
			f[i]++
		}
		key, e := Key(s, f)
		want(t, "error of Key", e, api.OK)
		for _, a := range l[:min(len(l), 50)] {
			for _, complement := range []bool{false, true} {
				k, e := Key(s, moved(api.Symmetry{Cells: a.Cells, Complement: complement}, f))
				wantList(t, "Key of an image", k, e, key, api.OK)
			}
		}
	}
}

func TestBoundedAndHalves(t *testing.T) { // P7.6
	random := rand.New(rand.NewSource(84))
	for _, s := range append(someSystems(85, 60, 8), square(), rowsAndColumns()) {
		most := random.Intn(3)
		sum := random.Intn(most*s.Cells + 1)
		n, e := Bounded(s, most, sum)
		want(t, "error of Bounded", e, api.OK)
		lists, numbers, e := Halves(s, s.Cells, most)
		want(t, "error of Halves", e, api.OK)
		whole := 0
		for k, list := range lists {
			if !slices.ContainsFunc(list, func(x int) bool { return x != sum }) {
				whole += numbers[k]
			}
		}
		want(t, "by halves and one by one", n, whole)
		p := random.Perm(s.Cells)
		renumbered := system(s.Cells)
		for _, line := range s.Lines {
			var other []int
			for _, cell := range line {
				other = append(other, p[cell])
			}
			slices.Sort(other)
			renumbered.Lines = append(renumbered.Lines, other)
		}
		m, e := Bounded(renumbered, most, sum)
		wantNumber(t, "with other numbers of the cells", m, e, n, api.OK)
	}
}

func TestMemory(t *testing.T) { // P7.1 to P7.5: arguments stay, and results share nothing with them or each other
	s, g, f, l := square(), path(3), loShu(), grouped(plain(0, 1), plain(1, 0))
	list := [][]int{{1, 2}, {2, 1}, {3, 3}}
	results := func() [][][]int {
		sets, _ := Sets(9, 3, 15)
		fillings, _ := Fillings(s, 15)
		places, _ := Distribution(s, 15)
		halves, numbers, _ := Halves(s, 3, 1)
		key, _ := Key(s, f)
		classes, _ := Classes(l, list)
		fixed, _ := Fixed(l, list)
		first, _ := AntimagicFirst(g)
		var least [][]int
		for _, class := range classes {
			least = append(least, class.Filling)
		}
		return [][][]int{sets, fillings, places, append(halves, numbers), {key}, least, {fixed}, {first}}
	}
	wanted := results()
	for _, lists := range results() {
		want(t, "there are lists", len(lists) > 0, true)
		for k, list := range lists {
			copy(list[:cap(list)], repeat(-1-k, cap(list)))
		}
		for k, list := range lists {
			want(t, "a list that is written to alone", list, repeat(-1-k, len(list)))
		}
	}
	want(t, "the arguments", []any{s, g, f, l, list}, []any{square(), path(3), loShu(), grouped(plain(0, 1), plain(1, 0)), [][]int{{1, 2}, {2, 1}, {3, 3}}})
	want(t, "the results again", results(), wanted)
}

func TestCallsAtOneTime(t *testing.T) { // P7.1 to P7.5: results depend on the arguments alone
	fillings, _ := Fillings(square(), 15)
	lists, numbers, _ := Halves(square(), 5, 2)
	spectrum, _ := Spectrum(pairs())
	eight, _ := group.Dihedral(3)
	var calls sync.WaitGroup
	for range 8 {
		calls.Go(func() {
			l, e := Fillings(square(), 15)
			wantLists(t, "Fillings", l, e, fillings, api.OK)
			wantHalves(t, square(), 5, 2, lists, numbers)
			x, e := Spectrum(pairs())
			wantList(t, "Spectrum", x, e, spectrum, api.OK)
			wantClasses(t, closed{eight, fillings}, Class{loShu(), 8})
		})
	}
	calls.Wait()
}
