package latin

import (
	"math/rand"
	"slices"
	"sync"
	"testing"

	"talisman/api"
)

// mateFallsApart reports whether the cells with one symbol of a mate are a
// transversal, for each symbol.
func mateFallsApart(l, mate api.Grid) bool {
	n := l.Rows
	for symbol := range n {
		var columns []int
		for i := range n {
			columns = append(columns, slices.Index(mate.Cells[n*i:n*i+n], symbol))
		}
		if is, e := IsTransversal(l, columns); !is || e != api.OK {
			return false
		}
	}
	return true
}

func TestMatesAreTransversals(t *testing.T) { // P4.9
	squares := append(samples(), allSquares(4)...)
	mates := 0
	for _, l := range squares {
		if l.Rows > 5 {
			continue
		}
		if mate, e := Mate(l); e == api.OK {
			mates++
			want(t, "the symbols of a mate", mateFallsApart(l, mate), true)
		}
	}
	want(t, "some have mates", mates > 100, true)
}

func TestIsotopesAndConjugates(t *testing.T) { // P4.9
	random := rand.New(rand.NewSource(20))
	count := func(l api.Grid) []int {
		transversals, e := Transversals(l)
		want(t, "error of Transversals", e, api.OK)
		intercalates, e := Intercalates(l)
		want(t, "error of Intercalates", e, api.OK)
		return []int{len(transversals), intercalates}
	}
	for _, l := range samples() {
		n := l.Rows
		if n > 7 {
			continue
		}
		wanted := count(l)
		for range 4 {
			g, e := Isotope(l, random.Perm(n), random.Perm(n), random.Perm(n))
			want(t, "an isotope", []any{count(g), e}, []any{wanted, api.OK})
		}
		for _, p := range permutations(3) {
			g, e := Conjugate(l, [3]int(p))
			want(t, "a conjugate", []any{count(g), e}, []any{wanted, api.OK})
		}
	}
}

func TestConjugatesAreUndone(t *testing.T) { // P4.7, P4.9
	for _, l := range samples() {
		for _, p := range permutations(3) {
			var back [3]int
			for place, part := range p {
				back[part] = place
			}
			g, _ := Conjugate(l, [3]int(p))
			again, e := Conjugate(g, back)
			wantGrid(t, "a conjugate of a conjugate", again, e, l, api.OK)
		}
	}
}

func TestProductsOfOrthogonalSquares(t *testing.T) { // P4.9
	for _, orders := range [][2]int{{3, 3}, {3, 4}, {4, 3}, {4, 4}, {3, 5}, {5, 3}, {1, 7}, {7, 1}} {
		families := [2][]api.Grid{}
		for i, q := range orders {
			families[i], _ = Family(q)
			if q == 1 {
				families[i] = []api.Grid{cyclic(1), cyclic(1)}
			}
		}
		a, _ := Product(families[0][0], families[1][0])
		b, _ := Product(families[0][1], families[1][1])
		is, e := Orthogonal(a, b)
		want(t, "products of orthogonal squares", []any{is, e}, []any{true, api.OK})
		c, _ := Product(families[0][0], families[1][1])
		is, e = Orthogonal(a, c)
		want(t, "products of other squares", []any{is, e}, []any{orders[0] == 1, api.OK})
	}
}

func TestGroups(t *testing.T) { // P4.9
	random := rand.New(rand.NewSource(21))
	squares := []api.Grid{symmetricGroup(), binary(8), binary(16)}
	for n := 1; n <= 16; n++ {
		squares = append(squares, cyclic(n))
	}
	for _, pair := range [][2]int{{2, 4}, {3, 3}, {2, 6}, {4, 4}, {2, 8}, {5, 3}} {
		g, _ := Product(cyclic(pair[0]), cyclic(pair[1]))
		squares = append(squares, g)
	}
	g, _ := Product(symmetricGroup(), cyclic(2))
	squares = append(squares, g)
	for _, l := range squares {
		for range 3 {
			n := l.Rows
			l, _ = Isotope(l, random.Perm(n), random.Perm(n), random.Perm(n))
			kinds, _ := Kinds(l)
			want(t, "a square of a group", slices.Contains(kinds, "group"), true)
		}
	}
	for range 20 {
		l, _ := Isotope(noGroup(), random.Perm(5), random.Perm(5), random.Perm(5))
		kinds, _ := Kinds(l)
		want(t, "a square of no group", slices.Contains(kinds, "group"), false)
	}
}

func TestReducedFormsOfAllSquares(t *testing.T) { // P4.7, P4.9
	for n := 1; n <= 4; n++ {
		counts := map[string]int{}
		for _, l := range allSquares(n) {
			g, _ := Reduce(l)
			key := ""
			for _, x := range g.Cells {
				key += string(rune('0' + x))
			}
			counts[key]++
		}
		reduced, _ := Reduced(n)
		want(t, "number of reduced forms", len(counts), len(reduced))
		each := []int{0, 1, 2, 12, 144}[n]
		for _, g := range reduced {
			key := ""
			for _, x := range g.Cells {
				key += string(rune('0' + x))
			}
			want(t, "squares with one reduced form", counts[key], each)
		}
	}
}

func TestCallsAtOneTime(t *testing.T) { // P4.5, P4.6: results depend on the arguments alone
	p := grid(5, slices.Concat([]int{0, 1, 2, 3, 4}, slices.Repeat([]int{-1}, 20))...)
	first, _ := Complete(p, 40)
	sets := [][]int{{0, 1, 2}, {0, 1}, {0, 1}, {1, 2, 3}}
	system, _ := Represent(sets)
	var group sync.WaitGroup
	for range 8 {
		group.Go(func() {
			again, e := Complete(p, 40)
			want(t, "Complete", []any{again, e}, []any{first, api.OK})
			chosen, e := Represent(sets)
			want(t, "Represent", []any{chosen, e}, []any{system, api.OK})
		})
	}
	group.Wait()
}
