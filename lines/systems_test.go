package lines

import (
	"math"
	"slices"
	"testing"

	"talisman/api"
)

func TestCheckSystem(t *testing.T) { // P2.1
	for what, row := range badSystems() {
		want(t, "CheckSystem of "+what, CheckSystem(row.s), row.e)
	}
	var many [][]int
	for i := range 128 {
		many = append(many, []int{i, 255})
	}
	for what, s := range map[string]api.System{
		"one cell without lines":       system(1),
		"256 cells and 128 lines":      {Cells: 256, Lines: many},
		"a line of all cells":          system(256, upTo(256)),
		"lines that begin alike":       system(3, []int{0, 1}, []int{0, 1, 2}, []int{0}),
		"cells whose digits are alike": system(13, []int{1, 12}, []int{11, 12}, []int{1, 2}, []int{12}),
	} {
		want(t, "CheckSystem of "+what, CheckSystem(s), api.OK)
	}
}

func TestSystemExamples(t *testing.T) { // P2.1
	for _, row := range []struct {
		kind  string
		n     int
		lines [][]int
	}{
		{"magic", 3, [][]int{{0, 1, 2}, {3, 4, 5}, {6, 7, 8}, {0, 3, 6}, {1, 4, 7}, {2, 5, 8}, {0, 4, 8}, {2, 4, 6}}},
		{"semimagic", 3, [][]int{{0, 1, 2}, {3, 4, 5}, {6, 7, 8}, {0, 3, 6}, {1, 4, 7}, {2, 5, 8}}},
		{"pandiagonal", 3, [][]int{{0, 1, 2}, {3, 4, 5}, {6, 7, 8}, {0, 3, 6}, {1, 4, 7}, {2, 5, 8}, {0, 4, 8}, {2, 4, 6}, {1, 5, 6}, {2, 3, 7}, {0, 5, 7}, {1, 3, 8}}},
		{"semimagic", 1, [][]int{{0}}}, {"magic", 1, [][]int{{0}}}, {"pandiagonal", 1, [][]int{{0}}},
		{"semimagic", 2, [][]int{{0, 1}, {2, 3}, {0, 2}, {1, 3}}},
		{"magic", 2, [][]int{{0, 1}, {2, 3}, {0, 2}, {1, 3}, {0, 3}, {1, 2}}},
		{"pandiagonal", 2, [][]int{{0, 1}, {2, 3}, {0, 2}, {1, 3}, {0, 3}, {1, 2}}},
	} {
		s, e := SquareSystem(row.kind, row.n)
		want(t, "error of SquareSystem", e, api.OK)
		wantSystem(t, row.kind, s, system(row.n*row.n, row.lines...))
	}
}

// cellsWith returns the cells of a square that satisfy a condition on row and column.
func cellsWith(n int, condition func(r, c int) bool) []int {
	var cells []int
	for r := range n {
		for c := range n {
			if condition(r, c) {
				cells = append(cells, n*r+c)
			}
		}
	}
	return cells
}

func TestSquareSystems(t *testing.T) { // P2.1
	for n := 3; n <= 16; n++ {
		down := func(k int) []int {
			return cellsWith(n, func(r, c int) bool { return c == (r+k)%n })
		}
		up := func(k int) []int {
			return cellsWith(n, func(r, c int) bool { return (r+c)%n == k })
		}
		var lines [][]int
		for k := range n {
			lines = append(lines, cellsWith(n, func(r, c int) bool { return r == k }))
		}
		for k := range n {
			lines = append(lines, cellsWith(n, func(r, c int) bool { return c == k }))
		}
		s, e := SquareSystem("semimagic", n)
		want(t, "semimagic", []any{s, e}, []any{system(n*n, lines...), api.OK})
		lines = append(lines, down(0), up(n-1))
		s, e = SquareSystem("magic", n)
		want(t, "magic", []any{s, e}, []any{system(n*n, lines...), api.OK})
		for k := 1; k < n; k++ {
			lines = append(lines, down(k))
		}
		for k := range n - 1 {
			lines = append(lines, up(k))
		}
		s, e = SquareSystem("pandiagonal", n)
		want(t, "pandiagonal", []any{s, e}, []any{system(n*n, lines...), api.OK})
	}
}

func TestRectangles(t *testing.T) { // P2.1
	s, e := RowLines(2, 3)
	want(t, "RowLines", []any{s, e}, []any{system(6, []int{0, 1, 2}, []int{3, 4, 5}), api.OK})
	s, e = ColumnLines(2, 3)
	want(t, "ColumnLines", []any{s, e}, []any{system(6, []int{0, 3}, []int{1, 4}, []int{2, 5}), api.OK})
	s, e = RowLines(3, 1)
	want(t, "RowLines of one column", []any{s, e}, []any{system(3, []int{0}, []int{1}, []int{2}), api.OK})
	s, e = ColumnLines(3, 1)
	want(t, "ColumnLines of one column", []any{s, e}, []any{system(3, []int{0, 1, 2}), api.OK})
	magic, _ := SquareSystem("semimagic", 16)
	s, e = RowLines(16, 16)
	want(t, "RowLines of the limits", []any{s, e}, []any{system(256, magic.Lines[:16]...), api.OK})
	s, e = ColumnLines(16, 16)
	want(t, "ColumnLines of the limits", []any{s, e}, []any{system(256, magic.Lines[16:]...), api.OK})
}

func TestCubes(t *testing.T) { // P2.1
	s, e := Cube(1)
	want(t, "Cube of 1", []any{s, e}, []any{system(1, []int{0}), api.OK})
	s, e = Cube(2)
	want(t, "Cube of 2", []any{s, e}, []any{system(8, []int{0, 1}, []int{2, 3}, []int{4, 5}, []int{6, 7}, []int{0, 2}, []int{1, 3}, []int{4, 6}, []int{5, 7}, []int{0, 4}, []int{1, 5}, []int{2, 6}, []int{3, 7}, []int{0, 7}, []int{1, 6}, []int{2, 5}, []int{3, 4}), api.OK})
	s, e = Cube(3)
	want(t, "error of Cube", e, api.OK)
	want(t, "Cube of 3", s, system(27,
		[]int{0, 1, 2}, []int{3, 4, 5}, []int{6, 7, 8}, []int{9, 10, 11}, []int{12, 13, 14}, []int{15, 16, 17}, []int{18, 19, 20}, []int{21, 22, 23}, []int{24, 25, 26},
		[]int{0, 3, 6}, []int{1, 4, 7}, []int{2, 5, 8}, []int{9, 12, 15}, []int{10, 13, 16}, []int{11, 14, 17}, []int{18, 21, 24}, []int{19, 22, 25}, []int{20, 23, 26},
		[]int{0, 9, 18}, []int{1, 10, 19}, []int{2, 11, 20}, []int{3, 12, 21}, []int{4, 13, 22}, []int{5, 14, 23}, []int{6, 15, 24}, []int{7, 16, 25}, []int{8, 17, 26},
		[]int{0, 13, 26}, []int{2, 13, 24}, []int{6, 13, 20}, []int{8, 13, 18}))
	for n := 3; n <= 6; n++ {
		s, e := Cube(n)
		want(t, "size of a cube", []any{s.Cells, len(s.Lines), CheckSystem(s), e}, []any{n * n * n, 3*n*n + 4, api.OK, api.OK})
	}
}

func TestStars(t *testing.T) { // P2.1
	s, e := Star(5)
	want(t, "Star of 5", []any{s, e}, []any{system(10, []int{0, 2, 5, 6}, []int{1, 3, 6, 7}, []int{2, 4, 7, 8}, []int{0, 3, 8, 9}, []int{1, 4, 5, 9}), api.OK})
	s, e = Star(6)
	want(t, "Star of 6", []any{s, e}, []any{system(12, []int{0, 2, 6, 7}, []int{1, 3, 7, 8}, []int{2, 4, 8, 9}, []int{3, 5, 9, 10}, []int{0, 4, 10, 11}, []int{1, 5, 6, 11}), api.OK})
	for n := 5; n <= 16; n++ {
		s, e := Star(n)
		lines := make([]int, 2*n) // of each cell
		for _, cell := range slices.Concat(s.Lines...) {
			lines[cell]++
		}
		want(t, "lines through the cells of a star", []any{lines, CheckSystem(s), e}, []any{repeat(2, 2*n), api.OK, api.OK})
	}
}

func TestErrorsOfSizes(t *testing.T) { // P2.1
	for _, n := range []int{0, 17, -1, math.MinInt, math.MaxInt} {
		for _, kind := range []string{"semimagic", "magic", "pandiagonal"} {
			s, e := SquareSystem(kind, n)
			want(t, "SquareSystem", []any{s, e}, []any{api.System{}, api.ErrRange})
		}
		for _, kind := range []string{"", "Magic", "normal", "most-perfect", "magic "} {
			s, e := SquareSystem(kind, n)
			want(t, "SquareSystem of another kind", []any{s, e}, []any{api.System{}, api.ErrKind})
		}
		for _, make := range []func(a, b int) (api.System, api.Errno){RowLines, ColumnLines} {
			s, e := make(n, 1)
			want(t, "wrong rows", []any{s, e}, []any{api.System{}, api.ErrRange})
			s, e = make(1, n)
			want(t, "wrong columns", []any{s, e}, []any{api.System{}, api.ErrRange})
		}
	}
	for _, n := range []int{0, 7, -1, math.MinInt, math.MaxInt} {
		s, e := Cube(n)
		want(t, "Cube", []any{s, e}, []any{api.System{}, api.ErrRange})
	}
	for _, n := range []int{4, 17, 0, -5, math.MinInt, math.MaxInt} {
		s, e := Star(n)
		want(t, "Star", []any{s, e}, []any{api.System{}, api.ErrRange})
	}
}

func TestLinesShareNoMemory(t *testing.T) { // P2.1
	all := func() []api.System {
		var systems []api.System
		add := func(s api.System, _ api.Errno) { systems = append(systems, s) }
		add(SquareSystem("pandiagonal", 4))
		add(RowLines(3, 3))
		add(ColumnLines(3, 3))
		add(Cube(3))
		add(Star(5))
		add(EdgeMagic(path()))
		add(VertexMagic(path()))
		return systems
	}
	for i, s := range all() {
		for k, line := range s.Lines {
			_ = append(line, -1)
			line[0] = -2
			s.Lines[k] = nil
			fresh := all()[i].Lines
			for other := k + 1; other < len(s.Lines); other++ {
				want(t, "a line behind one that was changed", s.Lines[other], fresh[other])
			}
		}
	}
}
