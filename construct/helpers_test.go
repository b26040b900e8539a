package construct

import (
	"math"
	"reflect"
	"slices"
	"testing"

	"talisman/api"
	"talisman/lines"
)

// want reports a result that is not the wanted one.
func want(t *testing.T, what string, got, wanted any) {
	t.Helper()
	if !reflect.DeepEqual(got, wanted) {
		t.Errorf("%s: got %v, want %v", what, got, wanted)
	}
}

// wantGrid is want for a grid and its error; nil and empty cells are equal.
func wantGrid(t *testing.T, what string, got api.Grid, e api.Errno, wanted api.Grid, wantedError api.Errno) {
	t.Helper()
	want(t, "error of "+what, e, wantedError)
	want(t, "shape of "+what, []int{got.Rows, got.Cols}, []int{wanted.Rows, wanted.Cols})
	if len(got.Cells) > 0 || len(wanted.Cells) > 0 {
		want(t, what, got.Cells, wanted.Cells)
	}
}

// wantRefusal is want for a refusal; nil and empty cells are equal.
func wantRefusal(t *testing.T, what string, got, wanted Refusal) {
	t.Helper()
	if len(got.Cells) == 0 && len(wanted.Cells) == 0 {
		got.Cells, wanted.Cells = nil, nil
	}
	want(t, what, got, wanted)
}

// grid returns a square with some numbers.
func grid(n int, cells ...int) api.Grid {
	return api.Grid{Rows: n, Cols: n, Cells: cells}
}

// step returns a rule of steps as a test writes it: row and column of each.
func step(n, start0, start1, next0, next1, break0, break1 int) api.Step {
	return api.Step{N: n, Start: [2]int{start0, start1}, Next: [2]int{next0, next1}, Break: [2]int{break0, break1}}
}

// siameseStep returns the rule of the siamese method.
func siameseStep(n int) api.Step {
	return step(n, 0, (n-1)/2, -1, 1, 2, -1)
}

// upTo returns the numbers from 1 to n.
func upTo(n int) []int {
	var list []int
	for x := 1; x <= n; x++ {
		list = append(list, x)
	}
	return list
}

func loShu() api.Grid {
	return grid(3, 2, 7, 6, 9, 5, 1, 4, 3, 8)
}

func durer() api.Grid {
	return grid(4, 16, 3, 2, 13, 5, 10, 11, 8, 9, 6, 7, 12, 4, 15, 14, 1)
}

// kindNames returns the kinds of rules, from the weakest on.
func kindNames() []string {
	return []string{"square", "semimagic", "magic", "pandiagonal"}
}

// linesNamed returns the lines that a kind names, as layer 2 has them.
func linesNamed(kind string, n int) [][]int {
	s, _ := lines.SquareSystem(kind, n) // it has no kind square, and so no lines
	return s.Lines
}

// badSteps returns rules of steps with errors.
func badSteps() map[string]api.Step {
	const above = api.MaxNumber + 1
	return map[string]api.Step{
		"no order":              {},
		"an order below 0":      step(-1, 0, 0, 0, 0, 0, 0),
		"the least order":       step(math.MinInt, 0, 0, 0, 0, 0, 0),
		"the order 17":          step(17, 0, 0, 1, 2, 2, 1),
		"the greatest order":    step(math.MaxInt, 0, 0, 1, 2, 2, 1),
		"a start row":           step(3, above, 0, 1, 2, 2, 1),
		"a start column":        step(3, 0, -above, 1, 2, 2, 1),
		"a next row":            step(3, 0, 0, -above, 2, 2, 1),
		"a next column":         step(3, 0, 0, 1, above, 2, 1),
		"a break row":           step(3, 0, 0, 1, 2, math.MaxInt, 1),
		"a break column":        step(3, 0, 0, 1, 2, 2, math.MinInt),
		"a break of some order": step(1, 0, 0, 0, 0, 0, above),
	}
}

// badSquares returns grids that are no normal squares, with their errors.
func badSquares() map[string]struct {
	g api.Grid
	e api.Errno
} {
	type row = struct {
		g api.Grid
		e api.Errno
	}
	return map[string]row{
		"nothing":                      {api.Grid{}, api.ErrShape},
		"a rectangle":                  {api.Grid{Rows: 2, Cols: 3, Cells: upTo(6)}, api.ErrShape},
		"another rectangle":            {api.Grid{Rows: 3, Cols: 2, Cells: upTo(6)}, api.ErrShape},
		"columns alone":                {api.Grid{Rows: 2, Cols: 1, Cells: upTo(4)}, api.ErrShape},
		"a cell too few":               {grid(2, 1, 2, 3), api.ErrShape},
		"a cell too many":              {grid(2, upTo(5)...), api.ErrShape},
		"no cells":                     {grid(2), api.ErrShape},
		"the order -1":                 {grid(-1, 1), api.ErrShape},
		"the order 17":                 {grid(17, upTo(289)...), api.ErrShape},
		"an order whose square is 0":   {grid(1 << 32), api.ErrShape},
		"the greatest order":           {grid(math.MaxInt, 1), api.ErrShape},
		"the least order":              {grid(math.MinInt), api.ErrShape},
		"too few cells, one twice":     {grid(2, 1, 1, 1), api.ErrShape},
		"a number twice":               {grid(2, 1, 2, 3, 3), api.ErrForm},
		"the number 0":                 {grid(2, 0, 1, 2, 3), api.ErrForm},
		"a number beyond the last one": {grid(2, 2, 3, 4, 5), api.ErrForm},
		"the order 1 with 2":           {grid(1, 2), api.ErrForm},
		"the least number":             {grid(1, math.MinInt), api.ErrForm},
		"the greatest number":          {grid(1, math.MaxInt), api.ErrForm},
	}
}

// hasKinds reports whether a square has all of some kinds of layer 2.
func hasKinds(g api.Grid, kinds ...string) bool {
	has, _ := lines.Kinds(g)
	for _, kind := range kinds {
		if !slices.Contains(has, kind) {
			return false
		}
	}
	return true
}
