package lines

import (
	"math/big"
	"math/rand"
	"reflect"
	"slices"
	"testing"

	"talisman/api"
)

// want reports a result that is not the wanted one.
func want(t *testing.T, what string, got, wanted any) {
	t.Helper()
	if !reflect.DeepEqual(got, wanted) {
		t.Errorf("%s: got %v, want %v", what, got, wanted)
	}
}

// wantList is want for lists: nil and empty ones are equal.
func wantList[T any](t *testing.T, what string, got, wanted []T) {
	t.Helper()
	if len(got) > 0 || len(wanted) > 0 {
		want(t, what, got, wanted)
	}
}

// wantSystem is want for systems: no lines are equal to an empty list of them.
func wantSystem(t *testing.T, what string, got, wanted api.System) {
	t.Helper()
	want(t, "cells of "+what, got.Cells, wanted.Cells)
	wantList(t, "lines of "+what, got.Lines, wanted.Lines)
}

func loShu() []int {
	return []int{2, 7, 6, 9, 5, 1, 4, 3, 8}
}

// system returns a system as a test writes it.
func system(cells int, lines ...[]int) api.System {
	return api.System{Cells: cells, Lines: lines}
}

// graph returns a graph as a test writes it.
func graph(vertices int, edges ...[2]int) api.Graph {
	return api.Graph{Vertices: vertices, Edges: edges}
}

// path returns the graph with the edges 0-1 and 1-2.
func path() api.Graph {
	return graph(3, [2]int{0, 1}, [2]int{1, 2})
}

// grid returns a square of these numbers.
func grid(n int, cells []int) api.Grid {
	return api.Grid{Rows: n, Cols: n, Cells: cells}
}

func repeat(x, n int) []int {
	return slices.Repeat([]int{x}, n)
}

// mapped returns what a function makes of each number.
func mapped(list []int, change func(x int) int) []int {
	result := make([]int, len(list))
	for i, x := range list {
		result[i] = change(x)
	}
	return result
}

func upTo(n int) []int {
	list := make([]int, n)
	for i := range list {
		list[i] = i
	}
	return list
}

// badSystems returns systems with errors, each one with several; the first one counts.
func badSystems() map[string]struct {
	s api.System
	e api.Errno
} {
	type row = struct {
		s api.System
		e api.Errno
	}
	return map[string]row{
		"no cells":                          {system(0), api.ErrRange},
		"fewer than no cells":               {system(-1, []int{}), api.ErrRange},
		"257 cells and 129 lines":           {api.System{Cells: 257, Lines: make([][]int, 129)}, api.ErrRange},
		"129 lines, the first one empty":    {api.System{Cells: 1, Lines: make([][]int, 129)}, api.ErrMany},
		"an empty line before a wrong one":  {system(2, []int{}, []int{2}), api.ErrEmpty},
		"a wrong cell before an empty line": {system(2, []int{2}, []int{}), api.ErrUnknown},
		"a cell below 0":                    {system(2, []int{-1, 0}), api.ErrUnknown},
		"a cell twice, then an unknown":     {system(2, []int{1, 1, 2}), api.ErrOrder},
		"an unknown cell, then one twice":   {system(2, []int{0, 2, 2}), api.ErrUnknown},
		"a cell that is both":               {system(2, []int{1, -1}), api.ErrUnknown},
		"cells that descend":                {system(3, []int{0, 2, 1}), api.ErrOrder},
		"a line twice":                      {system(3, []int{0, 2}, []int{0, 1}, []int{0, 2}), api.ErrTwice},
		"a line twice before a wrong one":   {system(3, []int{0}, []int{0}, []int{3}), api.ErrTwice},
		"a wrong line before one twice":     {system(3, []int{0}, []int{1, 0}, []int{0}), api.ErrOrder},
	}
}

// badGraphs returns graphs with errors, each one with several; the first one counts.
func badGraphs() map[string]struct {
	g api.Graph
	e api.Errno
} {
	type row = struct {
		g api.Graph
		e api.Errno
	}
	return map[string]row{
		"no vertices":                        {graph(0), api.ErrRange},
		"17 vertices and 33 edges":           {api.Graph{Vertices: 17, Edges: make([][2]int, 33)}, api.ErrRange},
		"fewer than no vertices":             {graph(-1, [2]int{0, 1}), api.ErrRange},
		"33 edges":                           {api.Graph{Vertices: 2, Edges: make([][2]int, 33)}, api.ErrMany},
		"a second end beyond the vertices":   {graph(2, [2]int{0, 2}), api.ErrUnknown},
		"a first end below 0":                {graph(2, [2]int{-1, 0}), api.ErrUnknown},
		"a first end beyond the vertices":    {graph(2, [2]int{2, 1}), api.ErrUnknown},
		"a second end below 0":               {graph(2, [2]int{1, -1}), api.ErrUnknown},
		"ends that descend":                  {graph(2, [2]int{1, 0}), api.ErrOrder},
		"a loop":                             {graph(2, [2]int{1, 1}), api.ErrOrder},
		"an edge twice":                      {graph(3, [2]int{0, 1}, [2]int{1, 2}, [2]int{0, 1}), api.ErrTwice},
		"an edge twice before a wrong one":   {graph(3, [2]int{0, 1}, [2]int{0, 1}, [2]int{0, 3}), api.ErrTwice},
		"a loop before an edge that is none": {graph(3, [2]int{1, 1}, [2]int{0, 3}), api.ErrOrder},
	}
}

// exact is the number of a text, read by math/big.
func exact(a api.Rat) *big.Rat {
	r, ok := new(big.Rat).SetString(string(a))
	if !ok {
		panic("no number: " + string(a))
	}
	return r
}

// sumsOfRationals returns the sums of the lines of a rational filling.
func sumsOfRationals(s api.System, f []api.Rat) []string {
	var sums []string
	for _, line := range s.Lines {
		sum := new(big.Rat)
		for _, cell := range line {
			sum.Add(sum, exact(f[cell]))
		}
		sums = append(sums, sum.RatString())
	}
	return sums
}

// someSystem returns a system with up to so many cells and lines.
func someSystem(random *rand.Rand, cells, lines int) api.System {
	s := api.System{Cells: random.Intn(cells) + 1}
	for range random.Intn(lines + 1) {
		line := random.Perm(s.Cells)[:random.Intn(s.Cells)+1]
		slices.Sort(line)
		if !slices.ContainsFunc(s.Lines, func(other []int) bool { return slices.Equal(other, line) }) {
			s.Lines = append(s.Lines, line)
		}
	}
	return s
}

// someSystems returns systems of the names that the package has, and others.
func someSystems(random *rand.Rand) []api.System {
	var systems []api.System
	for n := 1; n <= 5; n++ {
		for _, kind := range []string{"semimagic", "magic", "pandiagonal"} {
			s, _ := SquareSystem(kind, n)
			systems = append(systems, s)
		}
		cube, _ := Cube((n + 1) / 2)
		star, _ := Star(n + 4)
		rows, _ := RowLines(n, 3)
		columns, _ := ColumnLines(n, 3)
		systems = append(systems, cube, star, rows, columns)
	}
	edge, _ := EdgeMagic(path())
	vertex, _ := VertexMagic(path())
	systems = append(systems, edge, vertex)
	for range 300 {
		systems = append(systems, someSystem(random, 6, 7))
	}
	return systems
}
