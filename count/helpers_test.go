package count

import (
	"math/rand"
	"reflect"
	"slices"
	"testing"

	"talisman/api"
)

// want reports a result that is not the wanted one.
func want(t *testing.T, what string, got, wanted any) {
	t.Helper()
	if !reflect.DeepEqual(got, wanted) {
		t.Errorf("%s: got %v, want %v", what, got, wanted)
	}
}

// wantList is want for a list and its error: nil and empty lists are equal.
func wantList[T any](t *testing.T, what string, got []T, e api.Errno, wanted []T, code api.Errno) {
	t.Helper()
	want(t, "error of "+what, e, code)
	if len(got) > 0 || len(wanted) > 0 {
		want(t, what, got, wanted)
	}
}

// wantLists is wantList for lists of lists, of which some may be empty.
func wantLists(t *testing.T, what string, got [][]int, e api.Errno, wanted [][]int, code api.Errno) {
	t.Helper()
	wantList(t, what, filled(got), e, filled(wanted), code)
}

// wantNumber is want for a number and its error.
func wantNumber(t *testing.T, what string, got int, e api.Errno, wanted int, code api.Errno) {
	t.Helper()
	want(t, what, []any{got, e}, []any{wanted, code})
}

// filled returns the lists without nil ones.
func filled(lists [][]int) [][]int {
	var all [][]int
	for _, list := range lists {
		all = append(all, append([]int{}, list...))
	}
	return all
}

// system returns a system of some cells and lines.
func system(cells int, lines ...[]int) api.System {
	return api.System{Cells: cells, Lines: lines}
}

// square returns the system of the magic squares of order 3.
func square() api.System {
	return system(9, []int{0, 1, 2}, []int{3, 4, 5}, []int{6, 7, 8}, []int{0, 3, 6}, []int{1, 4, 7}, []int{2, 5, 8}, []int{0, 4, 8}, []int{2, 4, 6})
}

// rowsAndColumns returns the system of the semimagic squares of order 3.
func rowsAndColumns() api.System {
	return system(9, square().Lines[:6]...)
}

// pairs returns the system of two lines of two cells.
func pairs() api.System {
	return system(4, []int{0, 1}, []int{2, 3})
}

// graph returns a graph of some vertices and edges.
func graph(vertices int, edges ...[2]int) api.Graph {
	return api.Graph{Vertices: vertices, Edges: edges}
}

// path returns the graph of so many vertices in a row, cycle of as many in a ring, star of one that has edges to all others.
func path(vertices int) api.Graph {
	g := graph(vertices)
	for v := 1; v < vertices; v++ {
		g.Edges = append(g.Edges, [2]int{v - 1, v})
	}
	return g
}

func cycle(vertices int) api.Graph {
	g := path(vertices)
	g.Edges = append(g.Edges, [2]int{0, vertices - 1})
	return g
}

func star(vertices int) api.Graph {
	g := graph(vertices)
	for v := 1; v < vertices; v++ {
		g.Edges = append(g.Edges, [2]int{0, v})
	}
	return g
}

func loShu() []int {
	return []int{2, 7, 6, 9, 5, 1, 4, 3, 8}
}

func upTo(n int) []int {
	list := make([]int, n)
	for i := range list {
		list[i] = i
	}
	return list
}

func repeat(x, n int) []int {
	return slices.Repeat([]int{x}, n)
}

// permutations returns the lists of the numbers from 1 to n, each one once, in lexicographic order.
func permutations(n int) [][]int {
	if n == 0 {
		return [][]int{{}}
	}
	var all [][]int
	for x := 1; x <= n; x++ {
		for _, rest := range permutations(n - 1) {
			p := []int{x}
			for _, y := range rest {
				if y >= x {
					y++
				}
				p = append(p, y)
			}
			all = append(all, p)
		}
	}
	return all
}

// words returns the lists of n numbers from 0 to most, in lexicographic order.
func words(n, most int) [][]int {
	all := [][]int{{}}
	for range n {
		var longer [][]int
		for _, word := range all {
			for x := 0; x <= most; x++ {
				longer = append(longer, append(slices.Clone(word), x))
			}
		}
		all = longer
	}
	return all
}

func total(f, line []int) int {
	sum := 0
	for _, cell := range line {
		sum += f[cell]
	}
	return sum
}

// sumsOf returns the sums of all lines.
func sumsOf(s api.System, f []int) []int {
	sums := []int{}
	for _, line := range s.Lines {
		sums = append(sums, total(f, line))
	}
	return sums
}

// isMagicOf reports whether all lines have a sum.
func isMagicOf(s api.System, f []int, sum int) bool {
	for _, x := range sumsOf(s, f) {
		if x != sum {
			return false
		}
	}
	return true
}

// magicOf returns the normal magic fillings, in lexicographic order.
func magicOf(s api.System) [][]int {
	var all [][]int
	for _, f := range permutations(s.Cells) {
		if len(s.Lines) == 0 || isMagicOf(s, f, total(f, s.Lines[0])) {
			all = append(all, f)
		}
	}
	return all
}

// someLine returns a line of some of the cells, at least one.
func someLine(random *rand.Rand, cells int) []int {
	line := random.Perm(cells)[:1+random.Intn(cells)]
	slices.Sort(line)
	return line
}

// someSystem returns a system of up to so many cells. Most of them have a normal magic filling.
func someSystem(random *rand.Rand, most int) api.System {
	s := system(1 + random.Intn(most))
	f := permutations(s.Cells)[random.Intn(len(permutations(s.Cells)))]
	for range random.Intn(30) {
		line := someLine(random, s.Cells)
		isNew := !slices.ContainsFunc(s.Lines, func(other []int) bool { return slices.Equal(line, other) })
		fits := len(s.Lines) == 0 || total(f, line) == total(f, s.Lines[0]) || random.Intn(40) == 0
		if isNew && fits && len(s.Lines) < 6 {
			s.Lines = append(s.Lines, line)
		}
	}
	return s
}

// someSystems returns so many systems.
func someSystems(seed int64, number, most int) []api.System {
	random := rand.New(rand.NewSource(seed))
	all := []api.System{system(1), system(1, []int{0}), system(2), system(2, []int{0}, []int{1}), system(4, upTo(4)), pairs(), system(3, []int{0, 1}, []int{1, 2})}
	for len(all) < number {
		all = append(all, someSystem(random, most))
	}
	return all
}

// badSystem is a system with its error.
type badSystem struct {
	s api.System
	e api.Errno
}

// badSystems returns systems with an error, which they have before another one.
func badSystems() map[string]badSystem {
	return map[string]badSystem{
		"nothing at all":              {api.System{}, api.ErrRange},
		"fewer cells than 0":          {system(-1), api.ErrRange},
		"257 cells":                   {system(257), api.ErrRange},
		"the greatest number":         {system(1<<63 - 1), api.ErrRange},
		"the least number":            {system(-1 << 63), api.ErrRange},
		"no cells and a line":         {system(0, []int{0}), api.ErrRange},
		"129 lines, the first empty":  {system(20, make([][]int, 129)...), api.ErrMany},
		"an empty line":               {system(20, []int{0, 1}, nil, []int{1, 0}), api.ErrEmpty},
		"a line of the cell -1":       {system(20, []int{-1, 0}, nil), api.ErrUnknown},
		"a line of a cell too far":    {system(17, []int{3, 17}, []int{1, 1}), api.ErrUnknown},
		"a line in a wrong order":     {system(20, []int{3, 2, 20}, nil), api.ErrOrder},
		"a line with a cell twice":    {system(20, []int{2, 2}), api.ErrOrder},
		"a line twice":                {system(20, []int{2, 3}, []int{2}, []int{2, 3}, nil), api.ErrTwice},
		"a small system with a twice": {system(2, []int{1}, []int{1}), api.ErrTwice},
	}
}

// badGraph is a graph with its error.
type badGraph struct {
	g api.Graph
	e api.Errno
}

// badGraphs returns graphs with an error, which they have before another one.
func badGraphs() map[string]badGraph {
	return map[string]badGraph{
		"nothing at all":         {api.Graph{}, api.ErrRange},
		"no vertices, an edge":   {graph(0, [2]int{0, 1}), api.ErrRange},
		"17 vertices":            {path(17), api.ErrRange},
		"33 edges":               {graph(16, make([][2]int, 33)...), api.ErrMany},
		"an end that is no one":  {graph(4, [2]int{0, 1}, [2]int{0, 4}, [2]int{2, 1}), api.ErrUnknown},
		"an end below 0":         {graph(4, [2]int{-1, 1}), api.ErrUnknown},
		"an edge to itself":      {graph(4, [2]int{1, 1}, [2]int{0, 4}), api.ErrOrder},
		"an edge backwards":      {graph(4, [2]int{2, 1}), api.ErrOrder},
		"an edge twice":          {graph(4, [2]int{0, 1}, [2]int{1, 2}, [2]int{0, 1}, [2]int{2, 1}), api.ErrTwice},
		"an edge twice of three": {graph(2, [2]int{0, 1}, [2]int{0, 1}, [2]int{0, 2}), api.ErrTwice},
	}
}

// plain returns a symmetry without Complement, flip one with it.
func plain(cells ...int) api.Symmetry { return api.Symmetry{Cells: cells} }
func flip(cells ...int) api.Symmetry  { return api.Symmetry{Cells: cells, Complement: true} }

// grouped returns a group.
func grouped(l ...api.Symmetry) []api.Symmetry { return l }

// moved is the image of a filling, as the document has it.
func moved(a api.Symmetry, f []int) []int {
	g := make([]int, len(f))
	for i := range f {
		g[a.Cells[i]] = f[i]
		if a.Complement {
			g[a.Cells[i]] = len(f) + 1 - f[i]
		}
	}
	return g
}

// imagesOf returns the images of a filling, each one once, in lexicographic order.
func imagesOf(l []api.Symmetry, f []int) [][]int {
	var all [][]int
	for _, a := range l {
		all = append(all, moved(a, f))
	}
	slices.SortFunc(all, slices.Compare)
	return slices.CompactFunc(all, slices.Equal)
}
