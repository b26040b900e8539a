package lines

import (
	"math"
	"slices"
	"testing"

	"talisman/api"
)

// complete returns the graph with all edges.
func complete(n int) api.Graph {
	g := api.Graph{Vertices: n}
	for a := range n {
		for b := a + 1; b < n; b++ {
			g.Edges = append(g.Edges, [2]int{a, b})
		}
	}
	return g
}

func TestCheckGraph(t *testing.T) { // P2.1
	for what, row := range badGraphs() {
		want(t, "CheckGraph of "+what, CheckGraph(row.g), row.e)
	}
	large := complete(16)
	large.Edges = large.Edges[:32]
	for what, g := range map[string]api.Graph{"a path": path(), "a vertex": graph(1), "the limits": large, "edges in another order": graph(3, [2]int{1, 2}, [2]int{0, 1})} {
		want(t, "CheckGraph of "+what, CheckGraph(g), api.OK)
	}
}

func TestSystemsOfGraphs(t *testing.T) { // P2.1
	for _, row := range []struct {
		g            api.Graph
		edge, vertex api.System
	}{
		{path(), system(5, []int{0, 1, 3}, []int{1, 2, 4}), system(5, []int{0, 3}, []int{1, 3, 4}, []int{2, 4})},
		{graph(4, [2]int{1, 3}, [2]int{0, 1}), system(6, []int{1, 3, 4}, []int{0, 1, 5}), system(6, []int{0, 5}, []int{1, 4, 5}, []int{2}, []int{3, 4})},
		{complete(3), system(6, []int{0, 1, 3}, []int{0, 2, 4}, []int{1, 2, 5}), system(6, []int{0, 3, 4}, []int{1, 3, 5}, []int{2, 4, 5})},
	} {
		s, e := EdgeMagic(row.g)
		want(t, "EdgeMagic", []any{s, e}, []any{row.edge, api.OK})
		s, e = VertexMagic(row.g)
		want(t, "VertexMagic", []any{s, e}, []any{row.vertex, api.OK})
	}
	s, e := EdgeMagic(graph(3))
	want(t, "EdgeMagic without edges", []any{s, e}, []any{api.System{}, api.ErrEmpty})
	s, e = VertexMagic(graph(3))
	want(t, "VertexMagic without edges", []any{s, e}, []any{system(3, []int{0}, []int{1}, []int{2}), api.OK})
	large := complete(16)
	large.Edges = large.Edges[:32]
	s, e = EdgeMagic(large)
	want(t, "EdgeMagic of the limits", []any{s.Cells, len(s.Lines), CheckSystem(s), e}, []any{48, 32, api.OK, api.OK})
	s, e = VertexMagic(large)
	want(t, "VertexMagic of the limits", []any{s.Cells, len(s.Lines), CheckSystem(s), e}, []any{48, 16, api.OK, api.OK})
}

func TestErrorsOfGraphs(t *testing.T) { // P2.1, P2.6
	for what, row := range badGraphs() {
		s, e := EdgeMagic(row.g)
		want(t, "EdgeMagic of "+what, []any{s, e}, []any{api.System{}, row.e})
		s, e = VertexMagic(row.g)
		want(t, "VertexMagic of "+what, []any{s, e}, []any{api.System{}, row.e})
		sums, e := VertexSums(row.g, []int{0, 0, 0, 0, 0})
		want(t, "VertexSums of "+what, []any{len(sums), e}, []any{0, row.e})
		is, e := Antimagic(row.g, []int{0, 0, 0, 0, 0})
		want(t, "Antimagic of "+what, []any{is, e}, []any{false, row.e})
	}
}

func TestLabels(t *testing.T) { // P2.6
	for _, row := range []struct {
		what   string
		g      api.Graph
		labels []int
		sums   []int
		is     bool
		e      api.Errno
	}{
		{"the example", path(), []int{1, 2}, []int{1, 3, 2}, true, api.OK},
		{"its opposite", path(), []int{2, 1}, []int{2, 3, 1}, true, api.OK},
		{"one edge", graph(2, [2]int{0, 1}), []int{1}, []int{1, 1}, false, api.OK},
		{"a triangle", complete(3), []int{3, 1, 2}, []int{4, 5, 3}, true, api.OK},
		{"a vertex", graph(1), nil, []int{0}, true, api.OK},
		{"two vertices without an edge", graph(2), nil, []int{0, 0}, false, api.OK},
		{"a vertex beside a path", graph(4, [2]int{0, 1}, [2]int{1, 2}), []int{1, 2}, []int{1, 3, 2, 0}, true, api.OK},
		{"sums that are equal far apart", graph(5, [2]int{0, 1}, [2]int{0, 2}, [2]int{3, 4}), []int{1, 2, 3}, []int{3, 1, 2, 3, 3}, false, api.OK},
		{"too few", path(), []int{1}, nil, false, api.ErrShape},
		{"too many", path(), []int{1, 2, 3}, nil, false, api.ErrShape},
		{"too many of no form", path(), []int{0, 0, 0}, nil, false, api.ErrShape},
		{"labels without edges", graph(2), []int{1}, nil, false, api.ErrShape},
		{"one twice", path(), []int{1, 1}, nil, false, api.ErrPerm},
		{"from 0 on", path(), []int{0, 1}, nil, false, api.ErrPerm},
		{"with a gap", path(), []int{1, 3}, nil, false, api.ErrPerm},
		{"far out", path(), []int{math.MinInt, math.MaxInt}, nil, false, api.ErrPerm},
	} {
		labels := slices.Clone(row.labels)
		sums, e := VertexSums(row.g, row.labels)
		want(t, "error of VertexSums of "+row.what, e, row.e)
		wantList(t, "VertexSums of "+row.what, sums, row.sums)
		is, e := Antimagic(row.g, row.labels)
		want(t, "Antimagic of "+row.what, []any{is, e}, []any{row.is, row.e})
		want(t, "the labels afterwards", row.labels, labels)
	}
}
