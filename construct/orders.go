package construct

import (
	"talisman/api"
)

// Siamese returns the square of an odd order by the siamese method.
func Siamese(n int) (api.Grid, api.Errno) { return order(n).siamese() }

// DoublyEven returns the square of an order that 4 divides.
func DoublyEven(n int) (api.Grid, api.Errno) { return order(n).doublyEven() }

// SinglyEven returns the square of an even order that 4 does not divide.
func SinglyEven(n int) (api.Grid, api.Errno) { return order(n).singlyEven() }

// Magic returns a magic square of an order.
func Magic(n int) (api.Grid, api.Errno) {
	construction := order(n).singlyEven
	switch {
	case n%2 != 0:
		construction = order(n).siamese
	case n%4 == 0:
		construction = order(n).doublyEven
	}
	return construction()
}

// order is the order of a square that is constructed; it may be out of range.
type order int

func (o order) siamese() (api.Grid, api.Errno) {
	n := int(o)
	if e := checkOrders(n); e != api.OK {
		return api.Grid{}, e
	}
	if n%2 == 0 {
		return api.Grid{}, api.ErrNone
	}
	return Uniform(api.Step{N: n, Start: [2]int{0, (n - 1) / 2}, Next: [2]int{-1, 1}, Break: [2]int{2, -1}})
}

func (o order) doublyEven() (api.Grid, api.Errno) {
	n := int(o)
	if e := checkOrders(n); e != api.OK {
		return api.Grid{}, e
	}
	if n%4 != 0 {
		return api.Grid{}, api.ErrNone
	}
	return gridOf(n, n, func(i, j int) int {
		x := n*i + j + 1
		if i%4 == j%4 || (i+j)%4 == 3 {
			return n*n + 1 - x
		}
		return x
	}), api.OK
}

func (o order) singlyEven() (api.Grid, api.Errno) {
	n := int(o)
	if e := checkOrders(n); e != api.OK {
		return api.Grid{}, e
	}
	if n%4 != 2 || n == 2 {
		return api.Grid{}, api.ErrNone
	}
	m := n / 2
	quarter, e := Siamese(m)
	if e != api.OK {
		return api.Grid{}, e
	}
	return gridOf(n, n, func(i, j int) int {
		down, right := i/m, j/m
		if isExchanged(n, i%m, j) {
			down = 1 - down
		}
		times := [2][2]int{{0, 2}, {3, 1}}[down][right]
		return at(quarter, i%m, j%m) + times*m*m
	}), api.OK
}

// isExchanged reports whether a square of a singly even order n has the number
// of the upper half's cell i, j in the lower half, and the other way round.
func isExchanged(n, i, j int) bool {
	k := (n - 2) / 4
	switch {
	case j > n-k:
		return true
	case i == k:
		return isWithin(1, k, j)
	}
	return j < k
}
