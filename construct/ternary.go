package construct

import (
	"talisman/algebra"
	"talisman/api"
)

// Ternary returns the square of the order 9 whose digits are linear forms.
func Ternary(forms [4][4]int) (api.Grid, api.Errno) {
	if e := checkForms(forms); e != api.OK {
		return api.Grid{}, e
	}
	g := gridOf(9, 9, func(i, j int) int {
		number := 0
		for _, f := range forms {
			number = 3*number + (f[0]*(i/3)+f[1]*(i%3)+f[2]*(j/3)+f[3]*(j%3))%3
		}
		return number + 1
	})
	if !isNormal(g.Cells) {
		return api.Grid{}, api.ErrSingular
	}
	return g, api.OK
}

// TernaryAdmits reports whether linear forms say that their square is bimagic.
func TernaryAdmits(forms [4][4]int) (bool, api.Errno) {
	if e := checkForms(forms); e != api.OK {
		return false, e
	}
	var rows, columns, sums, differences [][]int
	for _, f := range forms {
		rows = append(rows, []int{f[0], f[1]})
		columns = append(columns, []int{f[2], f[3]})
		sums = append(sums, []int{f[0] + f[2], f[1] + f[3]})
		differences = append(differences, []int{f[0] - f[2], f[1] - f[3]})
	}
	return areIndependent(forms[0][:], forms[1][:], forms[2][:], forms[3][:]) &&
		areIndependentByTwo(rows) && areIndependentByTwo(columns) &&
		areIndependentByTwo(sums) && areIndependentByTwo(differences), api.OK
}

// Bimagic returns a bimagic square of the order 9.
func Bimagic() api.Grid {
	g, _ := Ternary([4][4]int{{0, 1, 1, 0}, {2, 0, 0, 1}, {1, 2, 1, 1}, {2, 2, 1, 2}})
	return g
}

// checkForms returns the error of linear forms.
func checkForms(forms [4][4]int) api.Errno {
	for _, f := range forms {
		if !isWithin(0, 2, f[:]...) {
			return api.ErrRange
		}
	}
	return api.OK
}

// areIndependentByTwo reports whether any two of some vectors are independent modulo 3.
func areIndependentByTwo(vectors [][]int) bool {
	for i, v := range vectors {
		for _, w := range vectors[:i] {
			if !areIndependent(v, w) {
				return false
			}
		}
	}
	return true
}

// areIndependent reports whether vectors are independent modulo 3.
func areIndependent(vectors ...[]int) bool {
	rank, _ := algebra.RankModulo(vectors, 3)
	return rank == len(vectors)
}
