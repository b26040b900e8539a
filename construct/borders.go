package construct

import (
	"talisman/api"
)

// Border returns the least bordered square around a square.
func Border(g api.Grid) (api.Grid, api.Errno) {
	if e := checkNormal(g); e != api.OK {
		return api.Grid{}, e
	}
	if !isMagic(g) {
		return api.Grid{}, api.ErrSum
	}
	if g.Rows > 4 {
		return api.Grid{}, api.ErrLimit
	}
	return framed(g, leastFrame(g.Rows+2)), api.OK
}

// isMagic reports whether the rows, columns and both diagonals of a normal
// square have the constant.
func isMagic(g api.Grid) bool {
	for line := range linesOf(g.Rows, 2*g.Rows+2) {
		if sumOf(g.Cells, line) != constantOf(g.Rows) {
			return false
		}
	}
	return true
}

// leastFrame returns the least list of numbers for a magic border of the order
// n: those of the first row, and then those below them in the first column.
// They tell all of the border, since the middle takes of each line the constant
// less n^2 + 1: numbers on opposite sides, and in opposite corners, have this sum.
func leastFrame(n int) []int {
	both, constant := n*n+1, constantOf(n)
	numbers := frameNumbers(n)
	frame := make([]int, 0, 2*n-2)
	isUsed := make([]bool, 2*n-1) // by the lesser one of a number and its opposite
	var extend func(rest int) bool
	extend = func(rest int) bool {
		switch len(frame) {
		case n: // the first row has ended, and the first column goes on between its corners
			if rest != 0 {
				return false
			}
			rest = constant - frame[0] - (both - frame[n-1])
		case 2*n - 2:
			return rest == 0
		}
	candidates:
		for _, x := range numbers {
			lesser := min(x, both-x)
			switch {
			case x > rest:
				break candidates
			case isUsed[lesser]:
				continue
			}
			isUsed[lesser] = true
			frame = append(frame, x)
			if extend(rest - x) {
				return true
			}
			frame = frame[:len(frame)-1]
			isUsed[lesser] = false
		}
		return false
	}
	extend(constant)
	return frame
}

// frameNumbers returns the numbers of a border in ascending order.
func frameNumbers(n int) []int {
	var numbers []int
	for x := 1; x <= n*n; x++ {
		if x <= 2*n-2 || x > n*n-(2*n-2) {
			numbers = append(numbers, x)
		}
	}
	return numbers
}

// framed returns a square within the border whose first row and column are given.
func framed(g api.Grid, frame []int) api.Grid {
	m, n := g.Rows, g.Rows+2
	return gridOf(n, n, func(i, j int) int {
		switch {
		case i == 0:
			return frame[j]
		case i == n-1 && (j == 0 || j == n-1):
			return n*n + 1 - frame[n-1-j]
		case i == n-1:
			return n*n + 1 - frame[j]
		case j == 0:
			return frame[n+i-1]
		case j == n-1:
			return n*n + 1 - frame[n+i-1]
		}
		return at(g, i-1, j-1) + 2*m + 2
	})
}
