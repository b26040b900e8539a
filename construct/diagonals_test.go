package construct

import (
	"math"
	"math/rand"
	"slices"
	"testing"

	"talisman/api"
)

func TestPandiagonal(t *testing.T) { // P3.5, P3.8
	g, e := Pandiagonal(4)
	wantGrid(t, "the order 4", g, e, grid(4, 1, 8, 13, 12, 14, 11, 2, 7, 4, 5, 16, 9, 15, 10, 3, 6), api.OK)
	g, e = Pandiagonal(5)
	wantGrid(t, "the order 5", g, e, grid(5, 1, 20, 9, 23, 12, 24, 13, 2, 16, 10, 17, 6, 25, 14, 3, 15, 4, 18, 7, 21, 8, 22, 11, 5, 19), api.OK)
	g, e = Pandiagonal(1)
	wantGrid(t, "the order 1", g, e, grid(1, 1), api.OK)
	for _, n := range []int{1, 4, 5, 7, 8, 11, 12, 13, 16} {
		g, e := Pandiagonal(n)
		var wanted api.Grid
		if n%2 == 1 {
			cells, _ := squareOf(step(n, 0, 0, 1, 2, 2, 1))
			wanted = grid(n, cells...)
		} else {
			list, _ := Halved(n)
			wanted, _ = MostPerfect(list, list)
		}
		wantGrid(t, "Pandiagonal", g, e, wanted, api.OK)
		want(t, "it is pandiagonal", hasKinds(g, "normal", "pandiagonal"), true)
	}
	for _, n := range []int{2, 3, 6, 9, 10, 14, 15} {
		g, e := Pandiagonal(n)
		wantGrid(t, "none of this order", g, e, api.Grid{}, api.ErrNone)
	}
}

func TestHalved(t *testing.T) { // P3.5
	for n, wanted := range map[int][]int{
		4: {0, 1, 3, 2}, 8: {0, 1, 2, 3, 7, 6, 5, 4}, 12: {0, 1, 2, 3, 4, 5, 11, 10, 9, 8, 7, 6},
		16: {0, 1, 2, 3, 4, 5, 6, 7, 15, 14, 13, 12, 11, 10, 9, 8},
	} {
		list, e := Halved(n)
		want(t, "Halved", []any{list, e}, []any{wanted, api.OK})
	}
	for n := range 20 {
		wanted := api.OK
		if n < 1 || n > 16 {
			wanted = api.ErrRange
		} else if n%4 != 0 {
			wanted = api.ErrNone
		}
		list, e := Halved(n)
		want(t, "error of Halved", []any{e, len(list) > 0}, []any{wanted, wanted == api.OK})
	}
	for _, n := range []int{-4, -1, 20, math.MinInt, math.MaxInt} {
		list, e := Halved(n)
		want(t, "Halved of no order", []any{len(list), e}, []any{0, api.ErrRange})
	}
}

// someHalves returns a list of digits whose second half has the opposites of the first one.
func someHalves(random *rand.Rand, n int) []int {
	list := make([]int, n)
	for i, x := range random.Perm(n / 2) {
		list[i], list[i+n/2] = x, n-1-x
		if random.Intn(2) == 0 {
			list[i], list[i+n/2] = list[i+n/2], list[i]
		}
	}
	return list
}

func TestMostPerfect(t *testing.T) { // P3.5, P3.8
	g, e := MostPerfect([]int{0, 1, 3, 2}, []int{1, 3, 2, 0})
	wantGrid(t, "the order 4", g, e, grid(4, 5, 16, 9, 4, 10, 3, 6, 15, 8, 13, 12, 1, 11, 2, 7, 14), api.OK)
	random := rand.New(rand.NewSource(5))
	for _, n := range []int{4, 8, 12, 16} {
		for range 30 {
			rows, cols := someHalves(random, n), someHalves(random, n)
			beforeRows, beforeCols := slices.Clone(rows), slices.Clone(cols)
			var wanted []int
			for i := range n {
				for j := range n {
					a, b := rows[i], cols[j]
					if j%2 == 1 {
						a = n - 1 - a
					}
					if i%2 == 1 {
						b = n - 1 - b
					}
					wanted = append(wanted, a+n*b+1)
				}
			}
			g, e := MostPerfect(rows, cols)
			wantGrid(t, "MostPerfect", g, e, grid(n, wanted...), api.OK)
			want(t, "it is most-perfect", hasKinds(g, "normal", "pandiagonal", "most-perfect"), true)
			want(t, "the lists afterwards", [][]int{rows, cols}, [][]int{beforeRows, beforeCols})
		}
	}
}

func TestErrorsOfMostPerfect(t *testing.T) { // P3.5
	good, other := []int{0, 1, 3, 2}, []int{0, 1, 2, 3}
	perm := func(n int) []int {
		list, _ := Halved(n)
		return list
	}
	long := slices.Concat(upTo(19), []int{0})
	for _, row := range []struct {
		what       string
		rows, cols []int
		e          api.Errno
	}{
		{"nothing", nil, nil, api.ErrRange}, {"rows alone", good, nil, api.ErrShape}, {"columns alone", nil, good, api.ErrShape},
		{"two orders", perm(4), perm(8), api.ErrShape}, {"two lengths that are no orders", []int{0}, []int{0, 1}, api.ErrShape},
		{"a length that is none, and 4", []int{5, 5, 5}, good, api.ErrShape},
		{"the order 1", []int{0}, []int{0}, api.ErrRange}, {"the order 2", []int{0, 1}, []int{0, 1}, api.ErrRange},
		{"the order 6", []int{0, 1, 2, 5, 4, 3}, []int{0, 1, 2, 5, 4, 3}, api.ErrRange}, {"the order 3, and no permutation", []int{7, 7, 7}, []int{7, 7, 7}, api.ErrRange},
		{"the order 20", long, long, api.ErrRange}, {"257 digits", make([]int, 257), make([]int, 257), api.ErrRange}, {"260 digits", make([]int, 260), make([]int, 260), api.ErrRange},
		{"rows with a digit twice", []int{0, 0, 3, 3}, good, api.ErrPerm}, {"rows from 1 on", []int{1, 2, 4, 3}, good, api.ErrPerm},
		{"rows below 0", []int{-1, 1, 4, 2}, good, api.ErrPerm}, {"rows of great numbers", []int{math.MinInt, math.MaxInt, math.MaxInt, math.MinInt}, good, api.ErrPerm},
		{"rows that do not fit", other, good, api.ErrSingular}, {"rows that fit in the first place alone", []int{0, 2, 3, 1}, good, api.OK},
		{"rows that fit in no place", []int{0, 3, 1, 2}, good, api.ErrSingular},
		{"columns with a digit twice", good, []int{0, 0, 3, 3}, api.ErrPerm}, {"columns from 1 on", good, []int{1, 2, 4, 3}, api.ErrPerm},
		{"columns that do not fit", good, other, api.ErrSingular},
		{"rows that are none, columns that do not fit", []int{0, 0, 3, 3}, other, api.ErrPerm},
		{"rows that do not fit, columns that are none", other, []int{0, 0, 3, 3}, api.ErrSingular},
	} {
		g, e := MostPerfect(row.rows, row.cols)
		if row.e == api.OK {
			want(t, row.what, e, api.OK)
		} else {
			wantGrid(t, row.what, g, e, api.Grid{}, row.e)
		}
	}
	late := perm(16)
	late[7], late[14] = late[14], late[7] // the pairs in the last places of the halves
	g, e := MostPerfect(late, perm(16))
	wantGrid(t, "rows that do not fit in late places", g, e, api.Grid{}, api.ErrSingular)
}
