package latin

import (
	"math/rand"
	"slices"
	"testing"

	"talisman/api"
)

// meeting returns the least second cell with a pair of an earlier one, and this one.
func meeting(a, b api.Grid) (int, int, bool) {
	for d := range a.Cells {
		for c := range d {
			if a.Cells[c] == a.Cells[d] && b.Cells[c] == b.Cells[d] {
				return c, d, true
			}
		}
	}
	return 0, 0, false
}

// wantMeeting compares Meet and Orthogonal with the definition.
func wantMeeting(t *testing.T, a, b api.Grid) bool {
	t.Helper()
	c, d, e := Meet(a, b)
	is, orthogonalError := Orthogonal(a, b)
	wantedC, wantedD, meet := meeting(a, b)
	wantedError := api.OK
	if !meet {
		wantedError = api.ErrNone
	}
	want(t, "Meet", []any{c, d, e}, []any{wantedC, wantedD, wantedError})
	want(t, "Orthogonal", []any{is, orthogonalError}, []any{!meet, api.OK})
	return is
}

func TestMeetOfSmallOrders(t *testing.T) { // P4.2
	c, d, e := Meet(cyclic(2), cyclic(2))
	want(t, "Cyclic of 2 with itself", []any{c, d, e}, []any{1, 2, api.OK})
	for n, wanted := range map[int]int{1: 1, 2: 0, 3: 72} {
		orthogonal := 0
		for _, a := range allSquares(n) {
			for _, b := range allSquares(n) {
				if wantMeeting(t, a, b) {
					orthogonal++
				}
			}
		}
		want(t, "pairs that are orthogonal", orthogonal, wanted)
	}
}

func TestMeet(t *testing.T) { // P4.2
	random := rand.New(rand.NewSource(6))
	for n := 4; n <= 7; n++ {
		for range 40 {
			a, b := someSquare(random, n), someSquare(random, n)
			wantMeeting(t, a, b)
			wantMeeting(t, a, a)
		}
	}
	for q := 3; q <= 16; q++ {
		f, _ := Family(q)
		for k, l := range f {
			before := []api.Grid{copyOf(f[0]), copyOf(l)}
			want(t, "squares of a family", wantMeeting(t, f[0], l), k > 0)
			want(t, "the squares afterwards", []api.Grid{f[0], l}, before)
			if k > 0 { // the last two rows exchanged: cells meet late
				spoilt := copyOf(l)
				from := q * (q - 2)
				spoilt.Cells = slices.Concat(l.Cells[:from], l.Cells[from+q:], l.Cells[from:from+q])
				want(t, "with two rows exchanged", wantMeeting(t, f[0], spoilt), false)
			}
		}
	}
	want(t, "binary and cyclic of 4", wantMeeting(t, binary(4), cyclic(4)), false)
	want(t, "binary and cyclic of 16", wantMeeting(t, binary(16), cyclic(16)), false)
}

func TestErrorsOfMeet(t *testing.T) { // P4.2
	check := func(what string, a, b api.Grid, wanted api.Errno) {
		t.Helper()
		is, e := Orthogonal(a, b)
		want(t, "Orthogonal, "+what, []any{is, e}, []any{false, wanted})
		c, d, e := Meet(a, b)
		want(t, "Meet, "+what, []any{c, d, e}, []any{0, 0, wanted})
	}
	for what, row := range badSquares() {
		check("a: "+what, row.g, cyclic(2), row.e)
		check("b: "+what, cyclic(2), row.g, row.e)
		check("b of another order: "+what, cyclic(5), row.g, row.e)
		for other, second := range badSquares() {
			check("a: "+what+", b: "+other, row.g, second.g, row.e)
		}
	}
	check("two orders", cyclic(3), cyclic(2), api.ErrShape)
	check("two orders", cyclic(2), cyclic(3), api.ErrShape)
	check("the orders 1 and 16", cyclic(1), cyclic(16), api.ErrShape)
}
