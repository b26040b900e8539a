package cone

import (
	"math/rand"
	"slices"
	"sync"
	"testing"

	"talisman/api"
)

// wideSystems returns systems of up to 12 cells and 12 lines.
func wideSystems(seed int64, number int) []api.System {
	random := rand.New(rand.NewSource(seed))
	all := []api.System{two(), three(), magic(), exact(), system(12, upTo(12)), system(12, subsets(12)...)}
	for len(all) < number {
		all = append(all, someSystem(random, 6+random.Intn(7), 12))
	}
	return all
}

func TestSumsOfIrreducibles(t *testing.T) { // P8.5
	random := rand.New(rand.NewSource(102))
	sums := 0
	for _, s := range wideSystems(103, 120) {
		h, e := Hilbert(s)
		if e == api.ErrMany {
			continue
		}
		r, e := Rays(s)
		want(t, "error of Rays", e, api.OK)
		for _, ray := range r {
			want(t, "a ray is irreducible", slices.ContainsFunc(h, func(f []int) bool { return slices.Equal(f, ray) }), true)
			is, e := IsRay(s, ray)
			wantTruth(t, "IsRay", is, e, true, api.OK)
		}
		n, e := Dimension(s)
		wantNumber(t, "Dimension", n, e, rankOf(r), api.OK)
		want(t, "the rank of the basis", rankOf(h), n)
		f := repeat(0, s.Cells)
		for range 5 {
			if len(h) == 0 {
				break
			}
			next := added(f, h[random.Intn(len(h))])
			sum, e := Sum(s, next)
			want(t, "a sum of fillings", e, api.OK)
			if sum > 24 {
				break
			}
			f = next
		}
		l, e := Decompose(s, f)
		want(t, "a filling is a sum", e, api.OK)
		want(t, "CheckSum", CheckSum(s, f, l), api.OK)
		if g, e := Split(s, f); e == api.OK {
			sums++
			rest := slices.Clone(f)
			for i, x := range g {
				rest[i] -= x
			}
			_, e = Sum(s, rest)
			want(t, "the rest of a filling", e, api.OK)
		}
	}
	want(t, "sums happened", sums > 20, true)
}

func TestCountsOfFewElements(t *testing.T) { // P8.5: fillings are sums in one way if all elements are independent
	independent, complete := 0, 0
	for _, s := range wideSystems(104, 150) {
		h, e := Hilbert(s)
		d, _ := Dimension(s)
		if e == api.ErrMany || len(h) != d || d > 16 {
			continue
		}
		independent++
		var sizes []int
		for _, f := range h {
			if n, _ := Sum(s, f); n <= 24 {
				sizes = append(sizes, n)
			}
		}
		for sum := range 25 {
			wanted, e := Coefficient([]int{1}, sizes, sum)
			want(t, "error of Coefficient", e, api.OK)
			n, e := Count(s, sum)
			wantNumber(t, "Count", n, e, wanted, api.OK)
			if n > 1 && s.Cells == 12 && len(s.Lines) > 5 {
				complete++
			}
		}
	}
	want(t, "systems with independent elements happened", independent > 30, true)
	want(t, "large systems with several fillings happened", complete > 20, true)
}

func TestNumeratorAndCoefficient(t *testing.T) { // P8.5: they are inverse to each other
	random := rand.New(rand.NewSource(105))
	for _, s := range someSystems(106, 60, 6) {
		sizes := make([]int, random.Intn(6))
		for i := range sizes {
			sizes[i] = 1 + random.Intn(4)
		}
		upto := random.Intn(13)
		numerator, e := Numerator(s, sizes, upto)
		want(t, "Numerator", []any{len(numerator), e}, []any{upto + 1, api.OK})
		for sum := range upto + 1 {
			wanted, e := Count(s, sum)
			want(t, "error of Count", e, api.OK)
			n, e := Coefficient(numerator, sizes, sum)
			wantNumber(t, "Coefficient", n, e, wanted, api.OK)
		}
	}
}

func TestMacMahon(t *testing.T) { // P8.5: 3 (t + 3 over 4) + (t + 2 over 2)
	q, e := Quasi(three(), 1, 4)
	want(t, "error of Quasi", e, api.OK)
	n, e := Agrees(three(), q, 24)
	wantNumber(t, "Agrees", n, e, 0, api.ErrNone)
	for sum := range 25 {
		wanted := 3*(sum+3)*(sum+2)*(sum+1)*sum/24 + (sum+2)*(sum+1)/2
		n, e := Count(three(), sum)
		wantNumber(t, "Count", n, e, wanted, api.OK)
		// Without 0 there is 1 in each cell, and the rest is any filling.
		n, e = Positive(three(), sum)
		if sum < 3 {
			wantNumber(t, "Positive", n, e, 0, api.OK)
			continue
		}
		wanted, _ = Count(three(), sum-3)
		wantNumber(t, "Positive", n, e, wanted, api.OK)
	}
	l, e := Numerator(three(), repeat(1, 5), 24)
	wantList(t, "Numerator", l, e, append([]int{1, 1, 1}, repeat(0, 22)...), api.OK)
}

func TestMatricesAreFillings(t *testing.T) { // P8.5: the terms of a matrix are rays of rows and columns
	random := rand.New(rand.NewSource(107))
	for range 50 {
		m := mixed(random, 3, random.Intn(5), 4)
		terms, e := Birkhoff(m)
		want(t, "the number of terms", []any{len(terms) <= 5, e}, []any{true, api.OK})
		whole := repeat(0, 9)
		for _, term := range terms {
			f := repeat(0, 9)
			for i, k := range term.Perm {
				f[3*i+k] = 1
			}
			is, e := IsRay(three(), f)
			wantTruth(t, "IsRay", is, e, true, api.OK)
			for range term.Times {
				whole = added(whole, f)
			}
		}
		want(t, "the terms add up", whole, slices.Concat(m...))
		l, e := Decompose(three(), whole)
		want(t, "error of Decompose", e, api.OK)
		want(t, "CheckSum", CheckSum(three(), whole, l), api.OK)
	}
}

func TestMemory(t *testing.T) { // P8.1 to P8.4: arguments stay, and results share nothing with them or each other
	s, f, q := magic(), repeat(2, 9), api.Quasi{{"1", "1/2"}, {"1"}}
	m, terms := [][]int{{2, 1, 0}, {0, 2, 1}, {1, 0, 2}}, []Term{{[]int{0, 1, 2}, 2}, {[]int{1, 2, 0}, 1}}
	numerator, sizes, times := []int{1, 2, 3}, []int{2, 1}, []int{1, 0, 0, 0, 1}
	results := func() [][][]int {
		list, _ := List(s, 3)
		part, _ := Split(s, f)
		basis, _ := Hilbert(s)
		rays, _ := Rays(s)
		decomposed, _ := Decompose(s, f)
		numbers, _ := Numerator(s, sizes, 6)
		found, _ := Birkhoff(m)
		n, _ := Coefficient(numerator, sizes, 5)
		proof := CheckSum(s, f, times)
		value, _ := Value(q, 1)
		agreed, _ := Agrees(s, q, 20)
		var perms [][]int
		for _, term := range found {
			perms = append(perms, term.Perm)
		}
		checked := CheckBirkhoff(m, terms)
		return [][][]int{list, {part}, basis, rays, {decomposed}, {numbers}, perms, {{n, int(proof), len(value), agreed, int(checked)}}}
	}
	wanted := results()
	for _, lists := range results() {
		want(t, "there are lists", len(lists) > 0, true)
		for k, list := range lists {
			copy(list[:cap(list)], repeat(-1-k, cap(list)))
		}
		for k, list := range lists {
			want(t, "a list that is written to alone", list, repeat(-1-k, len(list)))
		}
	}
	want(t, "the system and the filling", []any{s, f, q}, []any{magic(), repeat(2, 9), api.Quasi{{"1", "1/2"}, {"1"}}})
	want(t, "the matrix", []any{m, terms}, []any{[][]int{{2, 1, 0}, {0, 2, 1}, {1, 0, 2}}, []Term{{[]int{0, 1, 2}, 2}, {[]int{1, 2, 0}, 1}}})
	want(t, "the lists", []any{numerator, sizes, times}, []any{[]int{1, 2, 3}, []int{2, 1}, []int{1, 0, 0, 0, 1}})
	want(t, "the results again", results(), wanted)
	first, _ := Quasi(two(), 2, 1)
	first[0][0], first[0][1] = "7", "8"
	second, e := Quasi(two(), 2, 1)
	wantQuasi(t, "Quasi again", second, e, api.Quasi{{"1", "1"}, {"1", "1"}}, api.OK)
	want(t, "the other polynomial", first[1], []api.Rat{"1", "1"})
}

func TestCallsAtOneTime(t *testing.T) { // P8.1 to P8.4: results depend on the arguments alone
	basis, _ := Hilbert(exact())
	rays, _ := Rays(exact())
	list, _ := List(magic(), 12)
	numbers, _ := Numerator(three(), []int{1, 2}, 12)
	m := mixed(rand.New(rand.NewSource(108)), 9, 30, 50)
	terms, _ := Birkhoff(m)
	var calls sync.WaitGroup
	for range 8 {
		calls.Go(func() {
			h, e := Hilbert(exact())
			wantList(t, "Hilbert", h, e, basis, api.OK)
			r, e := Rays(exact())
			wantList(t, "Rays", r, e, rays, api.OK)
			l, e := List(magic(), 12)
			wantList(t, "List", l, e, list, api.OK)
			n, e := Numerator(three(), []int{1, 2}, 12)
			wantList(t, "Numerator", n, e, numbers, api.OK)
			found, e := Birkhoff(m)
			wantList(t, "Birkhoff", found, e, terms, api.OK)
		})
	}
	calls.Wait()
}
