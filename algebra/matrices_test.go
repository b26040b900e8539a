package algebra

import (
	"math/rand"
	"slices"
	"testing"

	"talisman/api"
)

// rows is a matrix as a test writes it.
type rows = [][]api.Rat

// list is a row, a side or a solution as a test writes it.
type list = []api.Rat

// zeros returns a matrix of zeros.
func zeros(n, columns int) rows {
	m := make(rows, n)
	for i := range m {
		m[i] = slices.Repeat(list{"0"}, columns)
	}
	return m
}

func oneAt(n int) rows {
	m := zeros(n, n)
	for i := range m {
		m[i][i] = "1"
	}
	return m
}

func TestCheckMatrix(t *testing.T) { // P1.3
	large := digits("9", 601)
	for _, row := range []struct {
		what string
		m    rows
		e    api.Errno
	}{
		{"no rows", nil, api.OK}, {"no columns", rows{{}, {}}, api.OK}, {"the limits", zeros(256, 256), api.OK},
		{"257 rows", make(rows, 257), api.ErrMany}, {"257 rows, and a wrong number", append(rows{{"x"}}, make(rows, 256)...), api.ErrMany},
		{"257 columns", rows{make(list, 257)}, api.ErrMany}, {"257 columns behind a short row", rows{{"1"}, make(list, 257)}, api.ErrMany},
		{"a short row", rows{{"1"}, {}}, api.ErrShape}, {"a long row", rows{{}, {"1"}}, api.ErrShape}, {"a long row with a wrong number", rows{{"1"}, {"x", "x"}}, api.ErrShape},
		{"a wrong number before a short row", rows{{large}, {}}, api.ErrLarge}, {"a short row before a wrong number", rows{{"1"}, {}, {large}}, api.ErrShape},
		{"two wrong numbers", rows{{"1", large, "2/2"}}, api.ErrLarge}, {"two wrong numbers", rows{{"1", "2/2", large}}, api.ErrForm},
		{"no text", rows{{""}}, api.ErrForm},
	} {
		want(t, "CheckMatrix of "+row.what, CheckMatrix(row.m), row.e)
		r, e := Echelon(row.m)
		want(t, "Echelon of "+row.what, e, row.e)
		k, e := Kernel(row.m)
		want(t, "Kernel of "+row.what, e, row.e)
		if row.e != api.OK && len(r)+len(k) > 0 {
			t.Errorf("%s: results beside an error", row.what)
		}
		n, e := MatrixRank(row.m)
		want(t, "MatrixRank of "+row.what, [2]any{n, e}, [2]any{0, row.e})
		if row.e != api.OK {
			_, e := Determinant(row.m)
			want(t, "Determinant of "+row.what, e, row.e)
			_, e = Solve(row.m, list{"x", "x", "x"})
			want(t, "Solve of "+row.what, e, row.e)
			_, e = Refute(row.m, list{"x", "x", "x"})
			want(t, "Refute of "+row.what, e, row.e)
			want(t, "CheckRefute of "+row.what, CheckRefute(row.m, list{"x", "x", "x"}, nil), row.e)
		}
	}
}

func TestEchelonExamples(t *testing.T) { // P1.3
	for _, row := range []struct {
		m, echelon, kernel rows
	}{
		{rows{{"1", "2", "3"}, {"2", "4", "7"}}, rows{{"1", "2", "0"}, {"0", "0", "1"}}, rows{{"1", "-1/2", "0"}}},
		{nil, nil, nil}, {rows{{}}, nil, nil},
		{rows{{"0", "0"}}, nil, rows{{"1", "0"}, {"0", "1"}}},
		{rows{{"1", "1", "1"}}, rows{{"1", "1", "1"}}, rows{{"1", "0", "-1"}, {"0", "1", "-1"}}},
		{rows{{"0", "-2", "3"}}, rows{{"0", "1", "-3/2"}}, rows{{"1", "0", "0"}, {"0", "1", "2/3"}}},
		{rows{{"0", "1"}, {"1", "0"}}, rows{{"1", "0"}, {"0", "1"}}, nil},
		{rows{{"1/2"}, {"1/3"}, {"0"}}, rows{{"1"}}, nil},
		{rows{{"2", "7", "6"}, {"9", "5", "1"}, {"4", "3", "8"}}, oneAt(3), nil},
		{oneAt(256), oneAt(256), nil}, {zeros(256, 1), nil, rows{{"1"}}},
	} {
		r, e := Echelon(row.m)
		want(t, "error of Echelon", e, api.OK)
		wantList(t, "Echelon", r, row.echelon)
		n, e := MatrixRank(row.m)
		want(t, "MatrixRank", [2]any{n, e}, [2]any{len(row.echelon), api.OK})
		k, e := Kernel(row.m)
		want(t, "error of Kernel", e, api.OK)
		wantList(t, "Kernel", k, row.kernel)
	}
}

// isReduced reports whether a matrix is a reduced echelon form.
func isReduced(m rows) bool {
	last := -1
	for i, row := range m {
		column := slices.IndexFunc(row, func(x api.Rat) bool { return x != "0" })
		if column <= last || row[column] != "1" {
			return false
		}
		for k, other := range m {
			if k != i && other[column] != "0" {
				return false
			}
		}
		last = column
	}
	return true
}

// dot returns the product of two lists, by the functions for numbers.
func dot(a, b list) api.Rat {
	sum := api.Rat("0")
	for i := range a {
		p, _ := Mul(a[i], b[i])
		sum, _ = Add(sum, p)
	}
	return sum
}

// firsts returns the columns in which the rows of an echelon form begin.
func firsts(m rows) []int {
	var columns []int
	for _, row := range m {
		columns = append(columns, slices.IndexFunc(row, func(x api.Rat) bool { return x != "0" }))
	}
	return columns
}

// combines reports whether a row is a sum of the rows of an echelon form: then
// its numbers in their first columns are the factors.
func combines(m rows, row list) bool {
	rest := slices.Clone(row)
	for k, column := range firsts(m) {
		factor := row[column]
		for i, x := range m[k] {
			p, _ := Mul(factor, x)
			rest[i], _ = Sub(rest[i], p)
		}
	}
	return !slices.ContainsFunc(rest, func(x api.Rat) bool { return x != "0" })
}

func TestEchelonAndKernel(t *testing.T) { // P1.3
	random := rand.New(rand.NewSource(5))
	for range 1500 {
		m := someMatrix(random, random.Intn(5)+1, random.Intn(6))
		echelon, e := Echelon(m)
		if e != api.OK || !isReduced(echelon) {
			t.Fatalf("Echelon of %v: %v, %d", m, echelon, e)
		}
		for _, row := range m {
			if !combines(echelon, row) {
				t.Fatalf("Echelon of %v: %v does not span the rows", m, echelon)
			}
		}
		kernel, e := Kernel(m)
		if e != api.OK || !isReduced(kernel) || len(kernel)+len(echelon) != len(m[0]) {
			t.Fatalf("Kernel of %v: %v, %d", m, kernel, e)
		}
		for _, list := range kernel {
			for _, row := range m {
				want(t, "product of a row and the null space", dot(row, list), api.Rat("0"))
			}
		}
		again, _ := Echelon(slices.Concat(echelon, m))
		wantList(t, "Echelon of the echelon form with the rows", again, echelon)
	}
}

func TestSolveExamples(t *testing.T) { // P1.3
	m, n := rows{{"1", "2", "3"}, {"2", "4", "7"}}, rows{{"1", "1"}, {"2", "2"}}
	for _, row := range []struct {
		m    rows
		b, x list
		e    api.Errno
	}{
		{m, list{"4", "9"}, list{"1", "0", "1"}, api.OK}, {n, list{"1", "2"}, list{"1", "0"}, api.OK}, {n, list{"1", "3"}, nil, api.ErrInfeasible},
		{n, list{"0", "0"}, list{"0", "0"}, api.OK}, {rows{{"0", "3"}}, list{"1"}, list{"0", "1/3"}, api.OK},
		{nil, nil, nil, api.OK}, {rows{{}}, list{"0"}, nil, api.OK}, {rows{{}}, list{"1"}, nil, api.ErrInfeasible}, {rows{{"0"}}, list{"1"}, nil, api.ErrInfeasible},
		{nil, list{"x"}, nil, api.ErrShape}, {n, list{"1"}, nil, api.ErrShape}, {n, list{"1", "2", "3"}, nil, api.ErrShape}, {n, list{"x"}, nil, api.ErrShape},
		{n, list{"1", "x"}, nil, api.ErrForm}, {n, list{digits("9", 601), "x"}, nil, api.ErrLarge}, {rows{{"0"}}, list{"4/6"}, nil, api.ErrForm},
		{rows{{"1/" + tenTo(599)}}, list{"10"}, nil, api.ErrLarge}, {rows{{"1/" + tenTo(599)}}, list{"9"}, list{"9" + digits("0", 599)}, api.OK},
		{rows{{digits("9", 600), "1"}, {"1", "-" + digits("9", 600)}}, list{digits("9", 600), "1"}, list{"1", "0"}, api.OK},
	} {
		x, e := Solve(row.m, row.b)
		want(t, "error of Solve", e, row.e)
		wantList(t, "Solve", x, row.x)
	}
}

func TestRefuteExamples(t *testing.T) { // P1.3
	n := rows{{"1", "1"}, {"2", "2"}}
	for _, row := range []struct {
		m rows
		b list
		e api.Errno
	}{
		{n, list{"1", "3"}, api.OK}, {rows{{}}, list{"1"}, api.OK}, {rows{{"0"}, {"1"}, {"0"}}, list{"0", "5", "-1/7"}, api.OK},
		{n, list{"1", "2"}, api.ErrNone}, {nil, nil, api.ErrNone}, {rows{{}}, list{"0"}, api.ErrNone},
		{nil, list{"x"}, api.ErrShape}, {n, list{"x"}, api.ErrShape}, {n, list{"1", "2", "3"}, api.ErrShape},
		{n, list{"1", "x"}, api.ErrForm}, {n, list{digits("9", 601), "x"}, api.ErrLarge},
		{rows{{"0"}}, list{"1/" + tenTo(599)}, api.OK}, {rows{{"1"}, {"11"}}, list{"0", "1/" + tenTo(599)}, api.ErrLarge},
	} {
		y, e := Refute(row.m, row.b)
		want(t, "error of Refute", e, row.e)
		if e == api.OK {
			want(t, "CheckRefute of Refute", CheckRefute(row.m, row.b, y), api.OK)
		} else {
			wantList(t, "Refute beside an error", y, nil)
		}
	}
}

func TestCheckRefute(t *testing.T) { // P1.3
	n, b := rows{{"1", "1"}, {"2", "2"}}, list{"1", "3"}
	large := digits("9", 601)
	for _, row := range []struct {
		m    rows
		b, y list
		e    api.Errno
	}{
		{n, b, list{"-2", "1"}, api.OK}, {n, b, list{"-4", "2"}, api.ErrProof}, {n, b, list{"1", "0"}, api.ErrProof}, {n, b, list{"0", "0"}, api.ErrProof}, {n, b, list{"2", "-1"}, api.ErrProof},
		{rows{{"1", "0"}, {"2", "1"}}, b, list{"-2", "1"}, api.ErrProof}, {rows{{"1"}, {"1"}, {"0"}}, list{"1", "1/2", "7"}, list{"2", "-2", "0"}, api.OK},
		{nil, nil, nil, api.ErrProof}, {rows{{}}, list{"1/2"}, list{"2"}, api.OK}, {rows{{}}, list{"1/2"}, list{"1"}, api.ErrProof},
		{n, b, list{"-2"}, api.ErrShape}, {n, b, list{"-2", "1", "0"}, api.ErrShape}, {n, list{"1"}, list{"-2", "1"}, api.ErrShape},
		{n, b, list{"x"}, api.ErrShape}, {n, b, list{"-2", "x"}, api.ErrForm}, {n, b, list{large, "x"}, api.ErrLarge},
		{n, list{"1", "x"}, list{"-2"}, api.ErrForm}, {n, list{"x"}, list{large, "1"}, api.ErrShape}, {n, list{large, "1"}, list{"x", "x"}, api.ErrLarge},
		{rows{{"1"}}, list{"1"}, list{tenTo(599)}, api.ErrProof},
		// the sums on the way have more than 600 digits
		{rows{{digits("9", 600)}, {digits("9", 600)}, {"0"}}, list{"0", "0", "1"}, list{digits("7", 600), "-" + digits("7", 600), "1"}, api.OK},
	} {
		want(t, "CheckRefute", CheckRefute(row.m, row.b, row.y), row.e)
	}
}

func TestSolveOrRefute(t *testing.T) { // P1.3, P1.5
	random := rand.New(rand.NewSource(6))
	for range 2000 {
		m := someMatrix(random, random.Intn(5)+1, random.Intn(5))
		b := someMatrix(random, 1, len(m))[0]
		x, e := Solve(m, b)
		y, refuted := Refute(m, b)
		switch {
		case e == api.OK && refuted == api.ErrNone:
			for i, row := range m {
				want(t, "product of a row and the solution", dot(row, x), b[i])
			}
			echelon, _ := Echelon(m)
			for column, value := range x {
				if !slices.Contains(firsts(echelon), column) {
					want(t, "a column without a first number", value, api.Rat("0"))
				}
			}
		case e == api.ErrInfeasible && refuted == api.OK:
			want(t, "CheckRefute of Refute", CheckRefute(m, b, y), api.OK)
		default:
			t.Fatalf("%v, %v: Solve %d, Refute %d", m, b, e, refuted)
		}
	}
}
