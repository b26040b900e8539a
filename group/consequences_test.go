package group

import (
	"math/big"
	"math/rand"
	"slices"
	"sync"
	"testing"

	"talisman/api"
)

func TestOrbitsAndStabilizers(t *testing.T) { // P5.5
	random := rand.New(rand.NewSource(59))
	for _, g := range someGroups() {
		for most := range 4 {
			f := someFilling(random, g.cells, 0, most)
			o, _ := Orbit(g.l, f)
			s, e := Stabilizer(g.l, f)
			want(t, "error of Stabilizer", e, api.OK)
			want(t, "the product of the numbers of an orbit and a stabilizer", len(o)*len(s), len(g.l))
			want(t, "CheckGroup of a stabilizer", CheckGroup(s, g.cells), api.OK)
			k, e := Cosets(g.l, s, g.cells)
			want(t, "the cosets by a stabilizer are as many as its orbit", []any{len(k), e}, []any{len(o), api.OK})
		}
	}
}

func TestCanonicalRepresentatives(t *testing.T) { // P5.5: of all fillings with few numbers
	for _, g := range someGroups() {
		if g.cells > 5 || len(g.l) > 60 {
			continue
		}
		orbits := map[string]int{}
		for _, f := range lists(g.cells, 3) {
			c, e := Canonical(g.l, f)
			want(t, "error of Canonical", e, api.OK)
			orbits[textOf(c)]++
			again, e := Canonical(g.l, c)
			wantList(t, "Canonical of a representative", again, e, c, api.OK)
			a, e := Same(g.l, f, c)
			want(t, "error of Same", e, api.OK)
			image, e := Apply(a, f)
			wantList(t, "Apply of what Same found", image, e, c, api.OK)
		}
		if slices.ContainsFunc(g.l, func(a api.Symmetry) bool { return a.Complement }) {
			continue // the complements of three numbers are others for more cells
		}
		for _, f := range lists(g.cells, 3) {
			o, _ := Orbit(g.l, f)
			c, _ := Canonical(g.l, f)
			want(t, "the fillings with a representative", orbits[textOf(c)], len(o))
		}
		n, e := Burnside(g.l, g.cells, 3)
		want(t, "the number of representatives", []any{n, e}, []any{api.Rat(big.NewInt(int64(len(orbits))).String()), api.OK})
	}
}

func TestRepresentativesAndSame(t *testing.T) { // P5.5
	random := rand.New(rand.NewSource(60))
	same, different := 0, 0
	for _, g := range someGroups() {
		for range 10 {
			f, h := someFilling(random, g.cells, 1, 2), someFilling(random, g.cells, 1, 2)
			c1, _ := Canonical(g.l, f)
			c2, _ := Canonical(g.l, h)
			_, e := Same(g.l, f, h)
			_, back := Same(g.l, h, f)
			want(t, "one representative", slices.Equal(c1, c2), e == api.OK)
			want(t, "the other way round", back, e)
			if e == api.OK {
				same++
			} else {
				different++
			}
		}
	}
	want(t, "both happened", same > 50 && different > 50, true)
}

func TestNumbersOfCosets(t *testing.T) { // P5.5
	for _, g := range []grouped{{4, symmetric(4)}, {4, withComplements(dihedralOf(2))}, {9, dihedralOf(3)}} {
		for _, h := range subgroups(g.cells, g.l) {
			k, e := Cosets(g.l, h, g.cells)
			want(t, "the number of cosets", []any{len(k), e}, []any{len(g.l) / len(h), api.OK})
		}
	}
}

func TestBurnsideOfTheIdentity(t *testing.T) { // P5.5
	for _, cells := range []int{0, 1, 2, 3, 9, 60} {
		for _, values := range []int{0, 1, 2, 10, 999, 999999999} {
			power := new(big.Int).Exp(big.NewInt(int64(values)), big.NewInt(int64(cells)), nil)
			n, e := Burnside(group(plain(upTo(cells)...)), cells, values)
			want(t, "Burnside of the identity", []any{n, e}, []any{api.Rat(power.String()), api.OK})
		}
	}
}

func TestMemory(t *testing.T) { // P5.1 to P5.4: arguments stay, and results share nothing with them or each other
	l, f, s := dihedralOf(3), loShu(), rowsAndColumns()
	half := group(plain(upTo(9)...), mirrorOf3())
	results := func() []any {
		closure, _ := Closure(l, 9)
		orbit, _ := Orbit(l, f)
		stabilizer, _ := Stabilizer(l, repeat(1, 9))
		canonical, _ := Canonical(l[:1], f)
		same, _ := Same(l, f, f)
		cells, _ := CellOrbits(l, 9)
		cosets, _ := Cosets(l, half, 9)
		image, _ := Apply(l[0], f)
		composition, _ := Compose(l[0], l[0])
		inverse, _ := Invert(l[0])
		automorphisms, _ := Automorphisms(s)
		dihedral, _ := Dihedral(3)
		return []any{closure, orbit, stabilizer, canonical, same, cells, cosets, image, composition, inverse, automorphisms, dihedral}
	}
	wanted := results()
	for _, x := range results() {
		var lists [][]int
		switch x := x.(type) {
		case []int:
			lists = append(lists, x)
		case [][]int:
			lists = x
		case api.Symmetry:
			lists = append(lists, x.Cells)
		case []api.Symmetry:
			for _, a := range x {
				lists = append(lists, a.Cells)
			}
		}
		for k, list := range lists {
			copy(list[:cap(list)], repeat(-1-k, cap(list)))
		}
		for k, list := range lists {
			want(t, "a list that is written to alone", list, repeat(-1-k, len(list)))
		}
	}
	want(t, "the arguments", []any{l, f, s, half}, []any{dihedralOf(3), loShu(), rowsAndColumns(), group(plain(upTo(9)...), mirrorOf3())})
	want(t, "the results again", results(), wanted)
}

func TestCallsAtOneTime(t *testing.T) { // P5.2 to P5.4: results depend on the arguments alone
	l, s := dihedralOf(4), rowsAndColumns()
	orbit, _ := Orbit(l, upTo(16))
	automorphisms, _ := Automorphisms(s)
	number, _ := Burnside(l, 16, 5)
	var calls sync.WaitGroup
	for range 8 {
		calls.Go(func() {
			o, e := Orbit(l, upTo(16))
			wantList(t, "Orbit", o, e, orbit, api.OK)
			a, e := Automorphisms(s)
			wantGroup(t, "Automorphisms", a, e, automorphisms, api.OK)
			n, e := Burnside(l, 16, 5)
			want(t, "Burnside", []any{n, e}, []any{number, api.OK})
		})
	}
	calls.Wait()
}
