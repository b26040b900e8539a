package lines

import (
	"math"
	"slices"
	"testing"

	"talisman/api"
)

// changed returns a list with another number in one place.
func changed(list []int, place, x int) []int {
	other := slices.Clone(list)
	other[place] = x
	return other
}

func TestFillings(t *testing.T) { // P2.2
	magic, _ := SquareSystem("magic", 3)
	largest := api.MaxNumber
	for _, row := range []struct {
		what  string
		s     api.System
		f     []int
		sums  []int
		first int // -1 for a magic filling
	}{
		{"the example", magic, loShu(), repeat(15, 8), -1},
		{"its change", magic, changed(loShu(), 0, 3), []int{16, 15, 15, 16, 15, 15, 16, 15}, 1},
		{"another change", magic, changed(loShu(), 7, 4), []int{15, 15, 16, 15, 16, 15, 15, 15}, 2},
		{"only the last line differs", system(3, []int{0}, []int{1}, []int{2}), []int{4, 4, 5}, []int{4, 4, 5}, 2},
		{"no lines", system(2), []int{1, 7}, nil, -1},
		{"one line", system(2, []int{1}), []int{1, 7}, []int{7}, -1},
		{"negative numbers", system(3, []int{0, 1}, []int{2}), []int{-5, 2, -3}, []int{-3, -3}, -1},
		{"cells in no line", system(3, []int{0}, []int{2}), []int{1, 9, 1}, []int{1, 1}, -1},
		{"the largest sum", system(256, upTo(256), upTo(255)), repeat(largest, 256), []int{256 * largest, 255 * largest}, 1},
		{"the least sum", system(256, upTo(256)), repeat(-largest, 256), []int{-256 * largest}, -1},
	} {
		sums, e := Sums(row.s, row.f)
		want(t, "error of Sums of "+row.what, e, api.OK)
		wantList(t, "Sums of "+row.what, sums, row.sums)
		is, e := IsMagic(row.s, row.f)
		want(t, "IsMagic of "+row.what, []any{is, e}, []any{row.first < 0, api.OK})
		line, e := First(row.s, row.f)
		if row.first < 0 {
			want(t, "First of "+row.what, []any{line, e}, []any{0, api.ErrNone})
		} else {
			want(t, "First of "+row.what, []any{line, e}, []any{row.first, api.OK})
		}
	}
}

// wantErrorOfFilling tells that every function of a system and a filling returns an error, and nothing else.
func wantErrorOfFilling(t *testing.T, what string, s api.System, f []int, wanted api.Errno) {
	t.Helper()
	sums, e := Sums(s, f)
	want(t, "Sums of "+what, []any{len(sums), e}, []any{0, wanted})
	is, e := IsMagic(s, f)
	want(t, "IsMagic of "+what, []any{is, e}, []any{false, wanted})
	line, e := First(s, f)
	want(t, "First of "+what, []any{line, e}, []any{0, wanted})
	coordinates, e := Coordinates(s, f)
	want(t, "Coordinates of "+what, []any{len(coordinates), e}, []any{0, wanted})
}

func TestErrorsOfFillings(t *testing.T) { // P2.2, P2.3
	for what, row := range badSystems() {
		wantErrorOfFilling(t, what, row.s, nil, row.e)
		wantErrorOfFilling(t, what, row.s, []int{math.MaxInt, 0}, row.e)
	}
	s := system(2, []int{0}, []int{1})
	wantErrorOfFilling(t, "too few numbers", s, []int{1}, api.ErrShape)
	wantErrorOfFilling(t, "too many numbers", s, []int{1, 1, 1}, api.ErrShape)
	wantErrorOfFilling(t, "no numbers", s, nil, api.ErrShape)
	wantErrorOfFilling(t, "too many numbers, some too large", s, repeat(math.MaxInt, 300), api.ErrShape)
	for _, x := range []int{api.MaxNumber + 1, -api.MaxNumber - 1, math.MaxInt, math.MinInt} {
		wantErrorOfFilling(t, "a number out of its range", s, []int{x, 0}, api.ErrRange)
		wantErrorOfFilling(t, "a number out of its range", s, []int{x, x}, api.ErrRange)
	}
}

func TestNormalFillings(t *testing.T) { // P2.2
	for _, row := range []struct {
		what       string
		f          []int
		complement []int // nil if it is not normal
	}{
		{"the example", loShu(), []int{8, 3, 4, 1, 5, 9, 6, 7, 2}},
		{"one number", []int{1}, []int{1}},
		{"256 numbers", mapped(upTo(256), func(x int) int { return x + 1 }), mapped(upTo(256), func(x int) int { return 256 - x })},
		{"another number", []int{2}, nil}, {"one twice", []int{1, 1}, nil}, {"a gap", []int{1, 3}, nil}, {"from 0 on", []int{0, 1}, nil},
		{"the right sum", []int{2, 2, 2}, nil}, {"the limits", []int{api.MaxNumber, -api.MaxNumber}, nil},
	} {
		f := slices.Clone(row.f)
		is, e := IsNormal(row.f)
		want(t, "IsNormal of "+row.what, []any{is, e}, []any{row.complement != nil, api.OK})
		complement, e := Complement(row.f)
		wantList(t, "Complement of "+row.what, complement, row.complement)
		if row.complement == nil {
			want(t, "error of Complement of "+row.what, e, api.ErrPerm)
		} else {
			want(t, "error of Complement of "+row.what, e, api.OK)
		}
		want(t, "the filling afterwards", row.f, f)
	}
}

func TestErrorsOfNormalFillings(t *testing.T) { // P2.2
	for _, row := range []struct {
		what string
		f    []int
		e    api.Errno
	}{
		{"no numbers", nil, api.ErrEmpty}, {"257 numbers", mapped(upTo(257), func(x int) int { return x + 1 }), api.ErrMany},
		{"257 numbers out of their range", repeat(math.MaxInt, 257), api.ErrMany},
		{"a number out of its range", []int{1, 1000000000}, api.ErrRange}, {"a number out of its range", []int{-1000000000}, api.ErrRange},
		{"the last number out of its range", []int{7, 7, math.MinInt}, api.ErrRange},
	} {
		is, e := IsNormal(row.f)
		want(t, "IsNormal of "+row.what, []any{is, e}, []any{false, row.e})
		complement, e := Complement(row.f)
		want(t, "Complement of "+row.what, []any{len(complement), e}, []any{0, row.e})
	}
}
