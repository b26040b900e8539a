package construct

import (
	"math"
	"math/rand"
	"slices"
	"testing"

	"talisman/api"
	"talisman/lines"
)

// forms are four linear forms as a test writes them.
type forms = [4][4]int

func bimagicForms() forms {
	return forms{{0, 1, 1, 0}, {2, 0, 0, 1}, {1, 2, 1, 1}, {2, 2, 1, 2}}
}

// ternaryOf computes all numbers of a square of forms, digit by digit.
func ternaryOf(f forms) []int {
	var cells []int
	for i := range 9 {
		for j := range 9 {
			place := [4]int{i / 3, i % 3, j / 3, j % 3}
			var d [4]int
			for k := range 4 {
				for l := range 4 {
					d[k] = (d[k] + f[k][l]*place[l]) % 3
				}
			}
			cells = append(cells, 27*d[0]+9*d[1]+3*d[2]+d[3]+1)
		}
	}
	return cells
}

func isOneToAll(cells []int) bool {
	return slices.Equal(slices.Sorted(slices.Values(cells)), upTo(len(cells)))
}

// failures tells which of the five conditions of TernaryAdmits fail.
func failures(f forms) [5]bool {
	failed := [5]bool{!isOneToAll(ternaryOf(f))} // independent forms have all digits
	for k := range 4 {
		for l := range k {
			dependent := func(vector func(g [4]int) (int, int)) bool {
				a, b := vector(f[k])
				c, d := vector(f[l])
				return (a*d-b*c)%3 == 0
			}
			failed[1] = failed[1] || dependent(func(g [4]int) (int, int) { return g[0], g[1] })
			failed[2] = failed[2] || dependent(func(g [4]int) (int, int) { return g[2], g[3] })
			failed[3] = failed[3] || dependent(func(g [4]int) (int, int) { return g[0] + g[2], g[1] + g[3] })
			failed[4] = failed[4] || dependent(func(g [4]int) (int, int) { return g[0] - g[2], g[1] - g[3] })
		}
	}
	return failed
}

// wantForms compares what is said of forms with their square.
func wantForms(t *testing.T, f forms) (failed [5]bool) {
	t.Helper()
	failed = failures(f)
	cells := ternaryOf(f)
	g, e := Ternary(f)
	if failed[0] {
		wantGrid(t, "Ternary", g, e, api.Grid{}, api.ErrSingular)
	} else {
		wantGrid(t, "Ternary", g, e, grid(9, cells...), api.OK)
	}
	is, e := TernaryAdmits(f)
	if e != api.OK || is != (failed == [5]bool{}) {
		t.Errorf("TernaryAdmits of %v: got %v, error %v", f, is, e)
	}
	if is {
		p, e := lines.Multimagic(g)
		want(t, "it is bimagic", []any{p >= 2, e}, []any{true, api.OK})
	}
	return failed
}

func TestBimagic(t *testing.T) { // P3.7, P3.8
	g := Bimagic()
	want(t, "the first row", g.Cells[:9], []int{1, 15, 26, 32, 43, 48, 63, 65, 76})
	want(t, "failures of its forms", wantForms(t, bimagicForms()), [5]bool{})
	wantGrid(t, "Bimagic", g, api.OK, grid(9, ternaryOf(bimagicForms())...), api.OK)
	want(t, "its kinds", hasKinds(g, "normal", "magic", "bimagic"), true)
	g.Cells[0] = 0
	want(t, "Bimagic once more", Bimagic().Cells[0], 1)
}

func TestTernary(t *testing.T) { // P3.7
	g, e := Ternary(forms{{1, 0, 0, 0}, {0, 1, 0, 0}, {0, 0, 1, 0}, {0, 0, 0, 1}})
	wantGrid(t, "i and j as digits", g, e, grid(9, upTo(81)...), api.OK)
	is, e := TernaryAdmits(forms{{1, 0, 0, 0}, {0, 1, 0, 0}, {0, 0, 1, 0}, {0, 0, 0, 1}})
	want(t, "they are not bimagic", []any{is, e}, []any{false, api.OK})
	g, e = Ternary(forms{{1, 0, 0, 0}, {1, 0, 0, 0}, {0, 0, 1, 0}, {0, 0, 0, 1}})
	wantGrid(t, "a form twice", g, e, api.Grid{}, api.ErrSingular)
	wantForms(t, forms{})
	wantForms(t, forms{{1, 2, 0, 0}, {2, 1, 0, 0}, {0, 0, 1, 0}, {0, 0, 0, 1}}) // the determinant is -3
	random := rand.New(rand.NewSource(6))
	for range 2000 {
		var f forms
		for k := range 16 {
			f[k/4][k%4] = random.Intn(3)
		}
		wantForms(t, f)
	}
}

func TestConditionsOfForms(t *testing.T) { // P3.7, P3.8
	found := map[[5]bool]int{}
	for k := range 256 { // one or two numbers other than those of Bimagic
		for change := range 9 {
			f := bimagicForms()
			f[k%4][k/4%4] = (f[k%4][k/4%4] + change%3) % 3
			f[k/16%4][k/64] = (f[k/16%4][k/64] + change/3) % 3
			found[wantForms(t, f)]++
		}
	}
	random := rand.New(rand.NewSource(7))
	apart := func() [4][2]int { // four vectors, any two of them independent
		list := [4][2]int{{0, 1}, {1, 0}, {1, 1}, {1, 2}}
		random.Shuffle(4, func(i, j int) { list[i], list[j] = list[j], list[i] })
		for i := range list {
			if random.Intn(2) == 0 {
				list[i] = [2]int{(3 - list[i][0]) % 3, (3 - list[i][1]) % 3}
			}
		}
		return list
	}
	for range 6000 { // two of the four lists are right, and the others may be
		v, w := apart(), apart()
		var f forms
		for k := range f {
			f[k] = [4]int{v[k][0], v[k][1], w[k][0], w[k][1]}
		}
		found[wantForms(t, mixed(f, random))]++
	}
	want(t, "forms without a failure are among them", found[[5]bool{}] > 0, true)
	want(t, "forms that are dependent alone are among them", found[[5]bool{0: true}] > 0, true)
	for i := 1; i <= 4; i++ { // none of the lists fails alone if the forms are independent
		for j := 1; j < i; j++ {
			var both [5]bool
			both[i], both[j] = true, true
			want(t, "forms with two failures are among them", []any{i, j, found[both] > 0}, []any{i, j, true})
		}
	}
}

// mixed puts other combinations of the first and the last two numbers of forms
// into their places.
func mixed(f forms, random *rand.Rand) forms {
	x := [][4]int{{1, 0, 0, 1}, {1, 0, 1, 1}, {1, 0, 2, 1}, {1, 1, 0, 1}, {1, 2, 0, 1}, {1, 1, 1, 2}}[random.Intn(6)]
	for k, g := range f {
		for i := range 2 {
			f[k][i] = (x[0]*g[i] + x[1]*g[i+2]) % 3
			f[k][i+2] = (x[2]*g[i] + x[3]*g[i+2]) % 3
		}
	}
	return f
}

func TestErrorsOfForms(t *testing.T) { // P3.7
	for k := range 16 {
		for _, x := range []int{-1, 3, math.MinInt, math.MaxInt} {
			f := bimagicForms()
			f[k/4][k%4] = x
			g, e := Ternary(f)
			wantGrid(t, "Ternary of a wrong number", g, e, api.Grid{}, api.ErrRange)
			is, e := TernaryAdmits(f)
			want(t, "TernaryAdmits of a wrong number", []any{is, e}, []any{false, api.ErrRange})
		}
	}
	g, e := Ternary(forms{{0, 0, 0, 0}, {0, 0, 0, 0}, {0, 0, 0, 0}, {0, 0, 0, 4}})
	wantGrid(t, "a wrong number, and forms that are not independent", g, e, api.Grid{}, api.ErrRange)
}
