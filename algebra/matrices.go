package algebra

import (
	"talisman/api"
)

// CheckMatrix returns the first error of a matrix, or OK.
func CheckMatrix(m [][]api.Rat) api.Errno {
	_, e := readRows(m, read)
	return e
}

// Echelon returns the reduced echelon form of a matrix.
func Echelon(m [][]api.Rat) ([][]api.Rat, api.Errno) {
	rows, e := readRows(m, read)
	if e != api.OK {
		return nil, e
	}
	return writeRows(eliminate(rationals{}, rows).rows)
}

// MatrixRank returns the rank of a matrix.
func MatrixRank(m [][]api.Rat) (int, api.Errno) {
	rows, e := readRows(m, read)
	if e != api.OK {
		return 0, e
	}
	return len(eliminate(rationals{}, rows).rows), api.OK
}

// Kernel returns the reduced basis of the null space of a matrix.
func Kernel(m [][]api.Rat) ([][]api.Rat, api.Errno) {
	rows, e := readRows(m, read)
	if e != api.OK {
		return nil, e
	}
	return writeRows(nullSpace(rationals{}, rows))
}

// Solve returns a solution of a system of equations.
func Solve(m [][]api.Rat, b []api.Rat) ([]api.Rat, api.Errno) {
	rows, right, e := readEquations(m, b)
	if e != api.OK {
		return nil, e
	}
	x, found := solve(rationals{}, rows, right)
	if !found {
		return nil, api.ErrInfeasible
	}
	return writeRow(x)
}

// Refute returns a combination of equations that contradicts itself.
func Refute(m [][]api.Rat, b []api.Rat) ([]api.Rat, api.Errno) {
	rows, right, e := readEquations(m, b)
	if e != api.OK {
		return nil, e
	}
	equations, sides := conditionsOfRefutation(rows, right)
	y, found := solve(rationals{}, equations, sides)
	if !found {
		return nil, api.ErrNone
	}
	return writeRow(y)
}

// CheckRefute returns OK for a combination of equations that contradicts itself.
func CheckRefute(m [][]api.Rat, b, y []api.Rat) api.Errno {
	rows, right, e := readEquations(m, b)
	if e != api.OK {
		return e
	}
	factors, e := readSide(y, len(m))
	if e != api.OK {
		return e
	}
	equations, sides := conditionsOfRefutation(rows, right)
	for i, equation := range equations {
		if product(equation, factors).minus(sides[i]).sign() != 0 {
			return api.ErrProof
		}
	}
	return api.OK
}

// conditionsOfRefutation returns the equations that the factors of the rows
// satisfy if they refute: each column adds up to 0, the right side to 1.
func conditionsOfRefutation(m [][]rational, right []rational) (equations [][]rational, sides []rational) {
	for column := range width(m) {
		equation := make([]rational, len(m))
		for i, row := range m {
			equation[i] = row[column]
		}
		equations = append(equations, equation)
		sides = append(sides, rationalOf(0))
	}
	return append(equations, right), append(sides, rationalOf(1))
}

// Determinant returns the determinant of a square matrix.
func Determinant(m [][]api.Rat) (api.Rat, api.Errno) {
	rows, e := readRows(m, read)
	if e != api.OK {
		return "", e
	}
	if width(rows) != len(rows) {
		return "", api.ErrShape
	}
	return write(determinant(rationals{}, rows))
}

// RankModulo returns the rank of a matrix modulo a prime number.
func RankModulo(m [][]int, p int) (int, api.Errno) {
	rows, e := readModulo(m, p)
	if e != api.OK {
		return 0, e
	}
	return len(eliminate(residues{int64(p)}, rows).rows), api.OK
}

// KernelModulo returns the reduced basis of the null space modulo a prime number.
func KernelModulo(m [][]int, p int) ([][]int, api.Errno) {
	rows, e := readModulo(m, p)
	if e != api.OK {
		return nil, e
	}
	var basis [][]int
	for _, list := range nullSpace(residues{int64(p)}, rows) {
		integers := make([]int, len(list))
		for i, x := range list {
			integers[i] = int(x)
		}
		basis = append(basis, integers)
	}
	return basis, api.OK
}

// readRows reads each element of a matrix, or returns the matrix's first error.
func readRows[S, T any](m [][]S, element func(S) (T, api.Errno)) ([][]T, api.Errno) {
	if len(m) > api.MaxList {
		return nil, api.ErrMany
	}
	rows := make([][]T, len(m))
	for i, row := range m {
		if len(row) > api.MaxList {
			return nil, api.ErrMany
		}
		if len(row) != len(m[0]) {
			return nil, api.ErrShape
		}
		var e api.Errno
		if rows[i], e = convert(row, element); e != api.OK {
			return nil, e
		}
	}
	return rows, api.OK
}

// convert converts each element of a list, or returns the first error of one.
func convert[S, T any](list []S, element func(S) (T, api.Errno)) ([]T, api.Errno) {
	result := make([]T, len(list))
	for i, x := range list {
		var e api.Errno
		if result[i], e = element(x); e != api.OK {
			return nil, e
		}
	}
	return result, api.OK
}

// readEquations reads a matrix and the right side of its equations.
func readEquations(m [][]api.Rat, b []api.Rat) (rows [][]rational, right []rational, e api.Errno) {
	rows, e = readRows(m, read)
	if e != api.OK {
		return nil, nil, e
	}
	right, e = readSide(b, len(m))
	return rows, right, e
}

// readSide reads a list with a number for each of the rows.
func readSide(list []api.Rat, rows int) ([]rational, api.Errno) {
	if len(list) != rows {
		return nil, api.ErrShape
	}
	return convert(list, read)
}

// readModulo reads a matrix of integers, modulo p.
func readModulo(m [][]int, p int) ([][]int64, api.Errno) {
	rows, e := readRows(m, func(n int) (int64, api.Errno) { return int64(n), bounded(n) })
	if e != api.OK {
		return nil, e
	}
	if prime, e := IsPrime(p); e != api.OK || !prime {
		return nil, api.ErrPrime
	}
	for _, row := range rows {
		for i, x := range row {
			row[i] = remainder(x, int64(p))
		}
	}
	return rows, api.OK
}

func writeRows(rows [][]rational) ([][]api.Rat, api.Errno) {
	return convert(rows, writeRow)
}

func writeRow(row []rational) ([]api.Rat, api.Errno) {
	return convert(row, write)
}
