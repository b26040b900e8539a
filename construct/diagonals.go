package construct

import (
	"talisman/algebra"
	"talisman/api"
)

// Pandiagonal returns a pandiagonal square of an order.
func Pandiagonal(n int) (api.Grid, api.Errno) {
	if e := checkOrders(n); e != api.OK {
		return api.Grid{}, e
	}
	if n%4 == 2 || n%2 == 1 && n%3 == 0 {
		return api.Grid{}, api.ErrNone
	}
	if n%2 == 1 {
		return Uniform(api.Step{N: n, Next: [2]int{1, 2}, Break: [2]int{2, 1}})
	}
	list := halved(n)
	return MostPerfect(list, list)
}

// MostPerfect returns the most-perfect square of two lists.
func MostPerfect(rows, cols []int) (api.Grid, api.Errno) {
	if len(rows) != len(cols) {
		return api.Grid{}, api.ErrShape
	}
	n := len(rows)
	if n%4 != 0 || checkOrders(n) != api.OK {
		return api.Grid{}, api.ErrRange
	}
	for _, list := range [][]int{rows, cols} {
		if e := checkHalves(list); e != api.OK {
			return api.Grid{}, e
		}
	}
	return gridOf(n, n, func(i, j int) int {
		return fromDigits(alternate(rows[i], j, n), alternate(cols[j], i, n), n)
	}), api.OK
}

// alternate returns the digit x in even places, and its opposite in odd ones.
func alternate(x, place, n int) int {
	if place%2 == 1 {
		return n - 1 - x
	}
	return x
}

// checkHalves returns the error of a list of digits whose second half has the
// opposites of the first one.
func checkHalves(list []int) api.Errno {
	if e := algebra.CheckPerm(list); e != api.OK {
		return e
	}
	n := len(list)
	for i := range n / 2 {
		if list[i]+list[i+n/2] != n-1 {
			return api.ErrSingular
		}
	}
	return api.OK
}

// Halved returns the list from which MostPerfect makes a square of an order.
func Halved(n int) ([]int, api.Errno) {
	if e := checkOrders(n); e != api.OK {
		return nil, e
	}
	if n%4 != 0 {
		return nil, api.ErrNone
	}
	return halved(n), api.OK
}

// halved returns the first half of the digits, and then their opposites.
func halved(n int) []int {
	list := make([]int, n)
	for i := range n / 2 {
		list[i], list[i+n/2] = i, n-1-i
	}
	return list
}
