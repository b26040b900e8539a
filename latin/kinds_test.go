package latin

import (
	"math/rand"
	"slices"
	"testing"

	"talisman/api"
)

// countIntercalates looks at all pairs of rows and of columns.
func countIntercalates(l api.Grid) int {
	n := l.Rows
	at := func(i, j int) int { return l.Cells[n*i+j] }
	count := 0
	for i := range n {
		for k := range n {
			for j := range n {
				for m := range n {
					if i != k && j != m && at(i, j) == at(k, m) && at(i, m) == at(k, j) {
						count++
					}
				}
			}
		}
	}
	return count / 4
}

func TestIntercalates(t *testing.T) { // P4.8
	for _, row := range []struct {
		l     api.Grid
		count int
	}{
		{cyclic(1), 0}, {cyclic(2), 1}, {cyclic(3), 0}, {cyclic(4), 4}, {binary(4), 12}, {cyclic(6), 9}, {cyclic(15), 0},
		{cyclic(16), 64}, {binary(16), 960}, {noGroup(), countIntercalates(noGroup())},
	} {
		count, e := Intercalates(row.l)
		want(t, "Intercalates", []any{count, e}, []any{row.count, api.OK})
	}
	for _, l := range samples() {
		before := copyOf(l)
		count, e := Intercalates(l)
		want(t, "Intercalates", []any{count, e}, []any{countIntercalates(l), api.OK})
		want(t, "the square afterwards", l, before)
	}
	for what, row := range badSquares() {
		count, e := Intercalates(row.g)
		want(t, what, []any{count, e}, []any{0, row.e})
	}
}

// haveAll reports whether cells, in the columns that a function tells for the
// rows, have each symbol once.
func haveAll(l api.Grid, column func(i int) int) bool {
	n := l.Rows
	var symbols []int
	for i := range n {
		symbols = append(symbols, l.Cells[n*i+(column(i)+n)%n])
	}
	slices.Sort(symbols)
	return slices.Equal(symbols, upTo(n))
}

// hasQuadrangles reports whether two quadrangles of cells whose first three
// symbols are the same have the same fourth one: this holds exactly for the
// squares whose reduced form is the table of a group.
func hasQuadrangles(l api.Grid) bool {
	n := l.Rows
	// The columns j, m and the rows i, k: for each triple of the symbols on i, j,
	// on i, m and on k, j the one on k, m.
	fourth := map[[3]int]int{}
	for i := range n {
		for j := range n {
			for k := range n {
				for m := range n {
					triple := [3]int{l.Cells[n*i+j], l.Cells[n*i+m], l.Cells[n*k+j]}
					x := l.Cells[n*k+m]
					if y, found := fourth[triple]; found && y != x {
						return false
					}
					fourth[triple] = x
				}
			}
		}
	}
	return true
}

// definedKinds returns the kinds as their definitions say them.
func definedKinds(l api.Grid) []string {
	n := l.Rows
	is := map[string]bool{"symmetric": true, "idempotent": true, "unipotent": true, "pandiagonal": true}
	is["reduced"] = slices.Equal(reducedForm(l).Cells, l.Cells)
	for i := range n {
		is["idempotent"] = is["idempotent"] && l.Cells[n*i+i] == i
		is["unipotent"] = is["unipotent"] && l.Cells[n*i+i] == l.Cells[0]
		for j := range n {
			is["symmetric"] = is["symmetric"] && l.Cells[n*i+j] == l.Cells[n*j+i]
		}
	}
	is["diagonal"] = haveAll(l, func(i int) int { return i }) && haveAll(l, func(i int) int { return n - 1 - i })
	for k := range n {
		down, up := func(i int) int { return i + k }, func(i int) int { return k - i }
		is["pandiagonal"] = is["pandiagonal"] && haveAll(l, down) && haveAll(l, up)
	}
	is["group"] = hasQuadrangles(l)
	var names []string
	for _, name := range []string{"reduced", "symmetric", "idempotent", "unipotent", "diagonal", "pandiagonal", "group"} {
		if is[name] {
			names = append(names, name)
		}
	}
	return names
}

func TestKindsExamples(t *testing.T) { // P4.8
	for _, row := range []struct {
		l     api.Grid
		kinds []string
	}{
		{cyclic(1), []string{"reduced", "symmetric", "idempotent", "unipotent", "diagonal", "pandiagonal", "group"}},
		{cyclic(2), []string{"reduced", "symmetric", "unipotent", "group"}},
		{cyclic(3), []string{"reduced", "symmetric", "group"}},
		{grid(3, 0, 2, 1, 2, 1, 0, 1, 0, 2), []string{"symmetric", "idempotent", "group"}},
		{grid(2, 1, 0, 0, 1), []string{"symmetric", "unipotent", "group"}},
		{binary(4), []string{"reduced", "symmetric", "unipotent", "group"}},
		{grid(4, 0, 1, 2, 3, 2, 3, 0, 1, 3, 2, 1, 0, 1, 0, 3, 2), []string{"diagonal", "group"}},
		{grid(5, 0, 1, 2, 3, 4, 2, 3, 4, 0, 1, 4, 0, 1, 2, 3, 1, 2, 3, 4, 0, 3, 4, 0, 1, 2), []string{"diagonal", "pandiagonal", "group"}},
		{grid(5, 0, 4, 3, 2, 1, 2, 1, 0, 4, 3, 4, 3, 2, 1, 0, 1, 0, 4, 3, 2, 3, 2, 1, 0, 4), []string{"idempotent", "diagonal", "pandiagonal", "group"}},
		{noGroup(), []string{"reduced"}},
		{symmetricGroup(), []string{"reduced", "group"}},
	} {
		kinds, e := Kinds(row.l)
		want(t, "error of Kinds", e, api.OK)
		want(t, "Kinds", kinds, row.kinds)
	}
	for what, row := range badSquares() {
		kinds, e := Kinds(row.g)
		want(t, what, []any{len(kinds), e}, []any{0, row.e})
	}
}

func TestKinds(t *testing.T) { // P4.8
	squares := append(samples(), allSquares(4)...)
	random := rand.New(rand.NewSource(18))
	for n := 5; n <= 9; n++ {
		for a := range n {
			for b := range n {
				if l, e := Linear(n, a, b); e == api.OK {
					squares = append(squares, l, shuffledSymbols(random, l))
				}
			}
		}
	}
	for range 200 {
		squares = append(squares, someSquare(random, 4+random.Intn(3)))
	}
	for _, l := range squares {
		before := copyOf(l)
		kinds, e := Kinds(l)
		want(t, "error of Kinds", e, api.OK)
		wantList(t, "Kinds", kinds, definedKinds(l))
		want(t, "the square afterwards", l, before)
	}
}

func TestKindsOfReducedSquares(t *testing.T) { // P4.8
	groups := map[int]int{1: 1, 2: 1, 3: 1, 4: 4, 5: 6}
	for n := 1; n <= 5; n++ {
		count := 0
		all, _ := Reduced(n)
		for _, l := range all {
			kinds, _ := Kinds(l)
			want(t, "Kinds", kinds, definedKinds(l))
			want(t, "reduced", kinds[0], "reduced")
			if slices.Contains(kinds, "group") {
				count++
			}
		}
		want(t, "reduced squares of groups", count, groups[n])
	}
}

func TestKindsWithOneFault(t *testing.T) { // P4.8
	random := rand.New(rand.NewSource(19))
	var downs, ups, idempotents, unipotents int
	for range 3000 {
		l := someSquare(random, 5)
		kinds, _ := Kinds(l)
		wantList(t, "Kinds", kinds, definedKinds(l))
		down := haveAll(l, func(i int) int { return i })
		up := haveAll(l, func(i int) int { return 4 - i })
		main := []int{l.Cells[0], l.Cells[6], l.Cells[12], l.Cells[18], l.Cells[24]}
		switch {
		case down && !up:
			downs++
		case up && !down:
			ups++
		}
		l = shuffledToFirst(l) // 0 on the first cell
		kinds, _ = Kinds(l)
		wantList(t, "Kinds", kinds, definedKinds(l))
		if l.Cells[6] == 1 && l.Cells[12] == 2 && l.Cells[24] != 4 {
			idempotents++
		}
		if main[0] == main[1] && main[1] == main[2] && main[3] != main[0] {
			unipotents++
		}
	}
	want(t, "some of each", slices.Min([]int{downs, ups, idempotents, unipotents}) > 5, true)
}

// shuffledToFirst returns a square with exchanged symbols that has 0 on its
// first cell.
func shuffledToFirst(l api.Grid) api.Grid {
	return squareWith(l.Rows, func(i, j int) int {
		return (l.Cells[l.Rows*i+j] - l.Cells[0] + l.Rows) % l.Rows
	})
}
