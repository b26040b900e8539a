package lines

import (
	"slices"
	"strconv"
	"strings"

	"talisman/algebra"
	"talisman/api"
)

// Dependence is a line that is a combination of lines before it: the line, and a factor for each line before it.
type Dependence struct {
	Line    int
	Factors []api.Rat
}

// Basis returns the reduced basis of the space of all magic fillings.
func Basis(s api.System) ([][]api.Rat, api.Errno) {
	if e := CheckSystem(s); e != api.OK {
		return nil, e
	}
	return algebra.Kernel(differences(s))
}

// differences returns, as rows, what each line has more than the line 0. The
// row of zeros in front tells the number of cells also where there are no lines.
func differences(s api.System) [][]api.Rat {
	rows := [][]api.Rat{repeated("0", s.Cells)}
	for _, line := range s.Lines {
		row := make([]int, s.Cells)
		for _, cell := range line {
			row[cell]++
		}
		for _, cell := range s.Lines[0] {
			row[cell]--
		}
		rows = append(rows, numbersOf(row))
	}
	return rows
}

func repeated(x api.Rat, n int) []api.Rat {
	return slices.Repeat([]api.Rat{x}, n)
}

// numbersOf returns integers as rational numbers.
func numbersOf(integers []int) []api.Rat {
	numbers := make([]api.Rat, len(integers))
	for i, x := range integers {
		numbers[i] = api.Rat(strconv.Itoa(x))
	}
	return numbers
}

// Coordinates returns the factors with which a magic filling is a sum of the basis.
func Coordinates(s api.System, f []int) ([]api.Rat, api.Errno) {
	magic, e := IsMagic(s, f)
	if e != api.OK {
		return nil, e
	}
	if !magic {
		return nil, api.ErrSum
	}
	basis, e := Basis(s)
	if e != api.OK {
		return nil, e
	}
	// Where a filling of the basis has its first number, 1, the others have 0:
	// the factor is what f has there.
	var factors []int
	for _, filling := range basis {
		factors = append(factors, f[firstPlace(filling)])
	}
	return numbersOf(factors), api.OK
}

// firstPlace returns the place of the first number other than 0, or -1.
func firstPlace(list []api.Rat) int {
	return slices.IndexFunc(list, func(x api.Rat) bool { return x != "0" })
}

// Dependent returns the lines that are combinations of others before them.
func Dependent(s api.System) ([]Dependence, api.Errno) {
	if e := CheckSystem(s); e != api.OK {
		return nil, e
	}
	echelon, e := algebra.Echelon(transposed(incidence(s)))
	if e != api.OK {
		return nil, e
	}
	var dependent []Dependence
	var independent []int
	for k := range s.Lines {
		rank := len(independent)
		if rank < len(echelon) && firstPlace(echelon[rank]) == k {
			independent = append(independent, k)
			continue
		}
		// A column without a pivot has, in each row, its factor of this row's pivot.
		factors := repeated("0", k)
		for row, line := range independent {
			factors[line] = echelon[row][k]
		}
		dependent = append(dependent, Dependence{Line: k, Factors: factors})
	}
	return dependent, api.OK
}

// incidence returns, as rows, the lines with 1 in their cells and 0 elsewhere.
func incidence(s api.System) [][]api.Rat {
	var rows [][]api.Rat
	for _, line := range s.Lines {
		row := repeated("0", s.Cells)
		for _, cell := range line {
			row[cell] = "1"
		}
		rows = append(rows, row)
	}
	return rows
}

func transposed(m [][]api.Rat) [][]api.Rat {
	var columns [][]api.Rat
	for i, row := range m {
		for k, x := range row {
			if i == 0 {
				columns = append(columns, nil)
			}
			columns[k] = append(columns[k], x)
		}
	}
	return columns
}

// Constant returns the sum that the lines of all normal magic fillings have.
func Constant(s api.System) (int, api.Errno) {
	if e := CheckSystem(s); e != api.OK {
		return 0, e
	}
	k, found := totalPerConstant(s)
	if !found {
		return 0, api.ErrNone
	}
	constant, e := algebra.Div(numbersOf([]int{s.Cells * (s.Cells + 1) / 2})[0], k)
	if e != api.OK {
		return 0, e
	}
	return integerOf(constant)
}

// totalPerConstant returns the number k, if there is one: it is the sum of all
// numbers of any magic filling with the constant 1, if there is such a filling
// and the line of all cells is a combination of the lines.
func totalPerConstant(s api.System) (k api.Rat, found bool) {
	if len(s.Lines) == 0 {
		return "", false
	}
	rows := incidence(s)
	filling, ofConstant := algebra.Solve(rows, repeated("1", len(rows)))
	_, ofTotal := algebra.Solve(transposed(rows), repeated("1", s.Cells))
	if ofConstant != api.OK || ofTotal != api.OK {
		return "", false
	}
	k = sumOf(filling)
	return k, k != "0"
}

// sumOf adds up numbers. Those of solutions have a common denominator, so that
// no sum on the way is a text that is too long.
func sumOf(numbers []api.Rat) api.Rat {
	sum := api.Rat("0")
	for _, x := range numbers {
		sum, _ = algebra.Add(sum, x)
	}
	return sum
}

// integerOf returns a number as an integer of the machine.
func integerOf(a api.Rat) (int, api.Errno) {
	if strings.Contains(string(a), "/") {
		return 0, api.ErrInfeasible
	}
	n, err := strconv.Atoi(string(a))
	if err != nil {
		return 0, api.ErrLarge
	}
	return n, api.OK
}
