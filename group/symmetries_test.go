package group

import (
	"math/big"
	"math/rand"
	"slices"
	"testing"

	"talisman/api"
)

func TestCheckSymmetry(t *testing.T) { // P5.1
	for what, row := range badSymmetries() {
		want(t, "CheckSymmetry of "+what, CheckSymmetry(row.a, row.cells), row.e)
	}
	for _, row := range []badSymmetry{
		{plain(), 0, api.OK}, {flip(), 0, api.OK}, {api.Symmetry{Cells: []int{}}, 0, api.OK}, {plain(0), 1, api.OK}, {flip(0), 1, api.OK},
		{plain(1, 0, 2), 3, api.OK}, {flip(2, 0, 1), 3, api.OK}, {plain(upTo(256)...), 256, api.OK}, {flip(cycles(256)...), 256, api.OK},
	} {
		want(t, "CheckSymmetry of a symmetry", CheckSymmetry(row.a, row.cells), row.e)
	}
}

func TestCheckGroup(t *testing.T) { // P5.1
	for what, row := range badGroups() {
		want(t, "CheckGroup of "+what, CheckGroup(row.l, row.cells), row.e)
	}
	for what, row := range badSymmetries() {
		want(t, "CheckGroup of "+what, CheckGroup(group(row.a), row.cells), row.e)
	}
	for _, g := range someGroups() {
		want(t, "CheckGroup of a group", CheckGroup(g.l, g.cells), api.OK)
		want(t, "CheckGroup for a cell more", CheckGroup(g.l, g.cells+1), api.ErrShape)
	}
}

func TestAllSubsetsOfAGroup(t *testing.T) { // P5.1: all lists in ascending order of the twelve symmetries of three cells
	all := withComplements(symmetric(3))
	groups := 0
	for subset := 1; subset < 1<<len(all); subset++ {
		var l []api.Symmetry
		for k, a := range all {
			if subset>>k&1 == 1 {
				l = append(l, a)
			}
		}
		wanted := api.OK
		for _, a := range l {
			for _, b := range l {
				if !contains(l, composed(a, b)) {
					wanted = api.ErrConflict
				}
			}
		}
		if wanted == api.OK {
			groups++
		}
		want(t, "CheckGroup of a subset", CheckGroup(l, 3), wanted)
	}
	want(t, "the number of groups", groups, 16)
}

// ofOrder1536 returns generators of a group with as many elements as a group may have.
func ofOrder1536() []api.Symmetry {
	var l []api.Symmetry
	for k := range 9 {
		a := plain(upTo(21)...)
		a.Cells[2*k], a.Cells[2*k+1] = 2*k+1, 2*k
		l = append(l, a)
	}
	last := plain(upTo(21)...)
	last.Cells[18], last.Cells[19], last.Cells[20] = 19, 20, 18
	return append(l, last)
}

func TestGreatGroups(t *testing.T) { // P5.1, P5.2
	l, e := Closure(ofOrder1536(), 21)
	want(t, "a group of 1536 elements", []any{len(l), e}, []any{1536, api.OK})
	want(t, "CheckGroup of 1536 elements", CheckGroup(l, 21), api.OK)
	want(t, "CheckGroup without the first one", CheckGroup(l[1:], 21), api.ErrConflict)
	want(t, "CheckGroup without the last one", CheckGroup(l[:1535], 21), api.ErrConflict)
	want(t, "CheckGroup of half of them", CheckGroup(l[:768], 21), api.OK)
	want(t, "CheckGroup of more than half of them", CheckGroup(l[:769], 21), api.ErrConflict)
	want(t, "CheckGroup of one more", CheckGroup(append(l, l[0]), 21), api.ErrMany)
	shifts, e := Shifts(16)
	want(t, "error of Shifts", e, api.OK)
	want(t, "CheckGroup of 256 shifts", CheckGroup(shifts, 256), api.OK)
	random := rand.New(rand.NewSource(50))
	var some []api.Symmetry
	for range 1535 {
		some = append(some, someSymmetry(random, 256))
	}
	some = append(some, plain(upTo(256)...))
	slices.SortFunc(some, order)
	want(t, "CheckGroup of 1536 symmetries", CheckGroup(some, 256), api.ErrConflict)
}

func TestApply(t *testing.T) { // P5.1
	for _, row := range []struct {
		a         api.Symmetry
		f, wanted []int
	}{
		{mirrorOf3(), loShu(), []int{6, 7, 2, 1, 5, 9, 8, 3, 4}},
		{flip(mirrorOf3().Cells...), loShu(), []int{4, 3, 8, 9, 5, 1, 2, 7, 6}},
		{plain(1, 2, 0), []int{7, 8, 9}, []int{9, 7, 8}},
		{flip(1, 2, 0), []int{7, 8, 9}, []int{-5, -3, -4}},
		{plain(), nil, nil}, {flip(), nil, nil}, {plain(0), []int{-5}, []int{-5}}, {flip(0), []int{-5}, []int{7}},
		{plain(1, 0), []int{999999999, -999999999}, []int{-999999999, 999999999}},
		{flip(1, 0), []int{999999999, -999999996}, []int{999999999, -999999996}},
		{flip(0), []int{-999999997}, []int{999999999}}, {flip(0), []int{999999999}, []int{-999999997}},
	} {
		f, e := Apply(row.a, row.f)
		wantList(t, "Apply", f, e, row.wanted, api.OK)
	}
	random := rand.New(rand.NewSource(51))
	for range 300 {
		cells := random.Intn(20)
		a, f := someSymmetry(random, cells), someFilling(random, cells, -50, 50)
		g, e := Apply(a, f)
		wantList(t, "Apply", g, e, moved(a, f), api.OK)
	}
	for _, cells := range []int{255, 256} {
		a, f := someSymmetry(random, cells), someFilling(random, cells, 1, cells)
		g, e := Apply(a, f)
		wantList(t, "Apply", g, e, moved(a, f), api.OK)
	}
}

func TestApplyErrors(t *testing.T) { // P5.1
	for what, row := range badFillings() {
		f, e := Apply(plain(1, 1), row.f)
		wantList(t, "Apply to "+what, f, e, nil, row.e)
		f, e = Apply(plain(upTo(len(row.f))...), row.f)
		wantList(t, "Apply to "+what, f, e, nil, row.e)
	}
	for what, row := range badSymmetries() {
		if row.cells >= 0 && row.cells <= 256 {
			f, e := Apply(row.a, repeat(1, row.cells))
			wantList(t, "Apply of "+what, f, e, nil, row.e)
		}
	}
	for _, row := range []struct {
		a api.Symmetry
		f []int
		e api.Errno
	}{
		{flip(0), []int{-999999998}, api.ErrRange}, {flip(0), []int{-999999999}, api.ErrRange}, {flip(1, 0), []int{5, -999999997}, api.ErrRange},
		{flip(1), []int{-999999999}, api.ErrPerm}, {flip(0, 1), []int{-999999999}, api.ErrShape}, {plain(0), []int{-999999999}, api.OK},
		{flip(upTo(256)...), repeat(-999999743, 256), api.ErrRange}, {flip(upTo(256)...), repeat(-999999742, 256), api.OK},
	} {
		f, e := Apply(row.a, row.f)
		want(t, "error of Apply", e, row.e)
		want(t, "Apply has a result", len(f) > 0, row.e == api.OK)
	}
}

func TestCompose(t *testing.T) { // P5.1
	for _, row := range []struct{ a, b, wanted api.Symmetry }{
		{plain(1, 2, 0), plain(1, 0, 2), plain(2, 1, 0)}, {plain(1, 0, 2), plain(1, 2, 0), plain(0, 2, 1)},
		{flip(1, 2, 0), plain(1, 0, 2), flip(2, 1, 0)}, {plain(1, 2, 0), flip(1, 0, 2), flip(2, 1, 0)}, {flip(1, 2, 0), flip(1, 0, 2), plain(2, 1, 0)},
		{plain(), plain(), plain()}, {flip(), plain(), flip()}, {flip(0), flip(0), plain(0)},
	} {
		a, e := Compose(row.a, row.b)
		wantGroup(t, "Compose", group(a), e, group(row.wanted), api.OK)
	}
	random := rand.New(rand.NewSource(52))
	for range 300 {
		cells := random.Intn(12)
		a, b, f := someSymmetry(random, cells), someSymmetry(random, cells), someFilling(random, cells, -9, 9)
		c, e := Compose(a, b)
		wantGroup(t, "Compose", group(c), e, group(composed(a, b)), api.OK)
		first, _ := Apply(b, f)
		second, _ := Apply(a, first)
		g, e := Apply(c, f)
		wantList(t, "Apply of a composition", g, e, second, api.OK)
	}
	c, e := Compose(flip(cycles(256)...), flip(cycles(256)...))
	wantGroup(t, "Compose of 256 cells", group(c), e, group(composed(plain(cycles(256)...), plain(cycles(256)...))), api.OK)
}

func TestComposeErrors(t *testing.T) { // P5.1
	for _, row := range []struct {
		a, b api.Symmetry
		e    api.Errno
	}{
		{plain(1, 2, 0), plain(1, 0), api.ErrShape}, {plain(1, 0), plain(1, 2, 0), api.ErrShape}, {plain(), plain(0), api.ErrShape}, {plain(0), plain(), api.ErrShape},
		{plain(0, 0), plain(1), api.ErrPerm}, {plain(0), plain(1), api.ErrPerm}, {plain(1, 0), plain(1, 1, 1), api.ErrShape}, {plain(0, 2), plain(0, 1), api.ErrPerm},
		{plain(upTo(257)...), plain(1), api.ErrRange}, {plain(upTo(257)...), plain(upTo(257)...), api.ErrRange}, {plain(repeat(0, 257)...), plain(), api.ErrRange},
		{plain(0), plain(upTo(257)...), api.ErrShape}, {plain(upTo(256)...), plain(upTo(257)...), api.ErrShape}, {plain(1), plain(upTo(257)...), api.ErrPerm},
	} {
		a, e := Compose(row.a, row.b)
		want(t, "Compose", []any{len(a.Cells), a.Complement, e}, []any{0, false, row.e})
		row.a.Complement, row.b.Complement = true, true
		a, e = Compose(row.a, row.b)
		want(t, "Compose with Complement", []any{len(a.Cells), a.Complement, e}, []any{0, false, row.e})
	}
}

func TestInvert(t *testing.T) { // P5.1
	for _, row := range []struct{ a, wanted api.Symmetry }{
		{plain(1, 2, 0), plain(2, 0, 1)}, {flip(1, 2, 0), flip(2, 0, 1)}, {plain(), plain()}, {flip(), flip()}, {flip(0), flip(0)},
		{turnOf3(), plain(6, 3, 0, 7, 4, 1, 8, 5, 2)}, {mirrorOf3(), mirrorOf3()},
	} {
		a, e := Invert(row.a)
		wantGroup(t, "Invert", group(a), e, group(row.wanted), api.OK)
	}
	random := rand.New(rand.NewSource(53))
	for range 100 {
		a := someSymmetry(random, random.Intn(257))
		b, e := Invert(a)
		want(t, "error of Invert", e, api.OK)
		one := plain(upTo(len(a.Cells))...)
		wantGroup(t, "a symmetry and its inverse", group(composed(a, b), composed(b, a)), e, group(one, one), api.OK)
	}
}

func TestOrder(t *testing.T) { // P5.1
	for _, row := range []struct {
		a api.Symmetry
		n int
	}{
		{turnOf3(), 4}, {mirrorOf3(), 2}, {plain(1, 2, 0, 4, 3), 6}, {plain(0, 1), 1}, {flip(0, 1), 2}, {flip(1, 2, 0), 6}, {flip(1, 0), 2}, {flip(1, 2, 3, 0), 4},
		{plain(), 1}, {flip(), 2}, {plain(0), 1}, {flip(0), 2}, {plain(cycles(256)...), 256}, {flip(cycles(255)...), 510}, {plain(cycles(4, 6)...), 12}, {plain(cycles(6, 10, 15)...), 30},
	} {
		n, e := Order(row.a)
		want(t, "Order", []any{n, e}, []any{row.n, api.OK})
	}
	random := rand.New(rand.NewSource(54))
	for range 200 {
		cells := random.Intn(10)
		a := someSymmetry(random, cells)
		wanted := 1
		for b := a; !equal(b, plain(upTo(cells)...)); b = composed(a, b) {
			wanted++
		}
		n, e := Order(a)
		want(t, "Order", []any{n, e}, []any{wanted, api.OK})
	}
}

func TestGreatOrders(t *testing.T) { // P5.1: an order above MaxNumber
	for _, lengths := range [][]int{{2, 3, 5, 7, 11, 13, 17, 19, 23, 29, 31, 37, 41}, {16, 9, 5, 7, 11, 13, 17, 19, 23, 29, 31, 37, 32}, {97, 101, 58}, {8, 8, 12, 18, 27, 25, 49, 77}} {
		wanted := big.NewInt(1)
		for _, n := range lengths {
			shared := new(big.Int).GCD(nil, nil, wanted, big.NewInt(int64(n)))
			wanted.Mul(wanted, big.NewInt(int64(n))).Div(wanted, shared)
		}
		n, e := Order(plain(cycles(lengths...)...))
		want(t, "Order", []any{int64(n), e}, []any{wanted.Int64(), api.OK})
		n, e = Order(flip(cycles(lengths...)...))
		if wanted.Bit(0) == 1 {
			wanted.Lsh(wanted, 1)
		}
		want(t, "Order with Complement", []any{int64(n), e}, []any{wanted.Int64(), api.OK})
	}
}

func TestInvertAndOrderErrors(t *testing.T) { // P5.1
	for _, row := range []struct {
		a api.Symmetry
		e api.Errno
	}{
		{plain(upTo(257)...), api.ErrRange}, {plain(repeat(0, 257)...), api.ErrRange}, {flip(repeat(0, 256)...), api.ErrPerm},
		{plain(1), api.ErrPerm}, {flip(0, 0), api.ErrPerm}, {plain(-1, 0), api.ErrPerm}, {plain(0, 2), api.ErrPerm},
	} {
		a, e := Invert(row.a)
		want(t, "Invert", []any{len(a.Cells), a.Complement, e}, []any{0, false, row.e})
		n, e := Order(row.a)
		want(t, "Order", []any{n, e}, []any{0, row.e})
	}
}
