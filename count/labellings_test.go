package count

import (
	"math/rand"
	"slices"
	"testing"

	"talisman/api"
)

func TestConstantExamples(t *testing.T) { // P7.5
	x, e := EdgeConstants(path(3))
	wantList(t, "EdgeConstants of the path", x, e, [][2]int{{8, 8}, {9, 8}, {10, 8}}, api.OK)
	x, e = VertexConstants(path(3))
	wantList(t, "VertexConstants of the path", x, e, [][2]int{{6, 2}, {7, 2}}, api.OK)
	x, e = EdgeConstants(cycle(3))
	wantList(t, "EdgeConstants of the triangle", x, e, [][2]int{{9, 6}, {10, 6}, {11, 6}, {12, 6}}, api.OK)
	x, e = VertexConstants(cycle(3))
	wantList(t, "VertexConstants of the triangle", x, e, [][2]int{{9, 6}, {10, 6}, {11, 6}, {12, 6}}, api.OK)
	x, e = VertexConstants(graph(1))
	wantList(t, "VertexConstants of a vertex", x, e, [][2]int{{1, 1}}, api.OK)
	x, e = VertexConstants(graph(2))
	wantList(t, "VertexConstants of two vertices", x, e, nil, api.OK)
	x, e = VertexConstants(path(2))
	wantList(t, "VertexConstants of an edge", x, e, nil, api.OK)
	x, e = EdgeConstants(path(2))
	wantList(t, "EdgeConstants of an edge", x, e, [][2]int{{6, 6}}, api.OK)
}

// constantsOf tries all labellings: of each edge with its ends, or of each vertex with its edges.
func constantsOf(g api.Graph, ofEdges bool) [][2]int {
	numbers := map[int]int{}
	for _, f := range permutations(g.Vertices + len(g.Edges)) {
		edgeSums, vertexSums := make([]int, len(g.Edges)), slices.Clone(f[:g.Vertices])
		for i, edge := range g.Edges {
			label := f[g.Vertices+i]
			edgeSums[i] = label + f[edge[0]] + f[edge[1]]
			vertexSums[edge[0]] += label
			vertexSums[edge[1]] += label
		}
		sums := vertexSums
		if ofEdges {
			sums = edgeSums
		}
		if slices.Min(sums) == slices.Max(sums) {
			numbers[sums[0]]++
		}
	}
	var all [][2]int
	for sum := range 50 {
		if numbers[sum] > 0 {
			all = append(all, [2]int{sum, numbers[sum]})
		}
	}
	return all
}

// someGraph returns a graph of some vertices and up to so many edges.
func someGraph(random *rand.Rand, vertices, edges int) api.Graph {
	g := graph(vertices)
	for range edges {
		edge := [2]int{random.Intn(vertices), random.Intn(vertices)}
		if edge[0] < edge[1] && !slices.Contains(g.Edges, edge) {
			g.Edges = append(g.Edges, edge)
		}
	}
	return g
}

func TestConstants(t *testing.T) { // P7.5: compared with all labellings
	random := rand.New(rand.NewSource(77))
	graphs := []api.Graph{graph(1), graph(3), path(4), cycle(4), star(4), path(2)}
	for range 15 {
		graphs = append(graphs, someGraph(random, 2+random.Intn(3), 4))
	}
	for _, g := range graphs {
		x, e := VertexConstants(g)
		wantList(t, "VertexConstants", x, e, constantsOf(g, false), api.OK)
		if len(g.Edges) > 0 {
			x, e = EdgeConstants(g)
			wantList(t, "EdgeConstants", x, e, constantsOf(g, true), api.OK)
		}
	}
}

func TestAntimagicExamples(t *testing.T) { // P7.5
	for name, x := range map[string]struct {
		g      api.Graph
		number int
		first  []int
		e      api.Errno
	}{
		"a path of 3":          {path(3), 2, []int{1, 2}, api.OK},
		"a triangle":           {cycle(3), 6, []int{1, 2, 3}, api.OK},
		"an edge":              {path(2), 0, nil, api.ErrNone},
		"a vertex":             {graph(1), 1, nil, api.OK},
		"two vertices":         {graph(2), 0, nil, api.ErrNone},
		"a star of 8 edges":    {star(9), 40320, []int{1, 2, 3, 4, 5, 6, 7, 8}, api.OK},
		"an edge and a vertex": {graph(3, [2]int{0, 2}), 0, nil, api.ErrNone},
		"a path and a vertex":  {graph(4, [2]int{0, 1}, [2]int{1, 2}), 2, []int{1, 2}, api.OK},
		"two edges":            {graph(4, [2]int{0, 1}, [2]int{2, 3}), 0, nil, api.ErrNone},
	} {
		n, e := AntimagicCount(x.g)
		wantNumber(t, "AntimagicCount of "+name, n, e, x.number, api.OK)
		l, e := AntimagicFirst(x.g)
		wantList(t, "AntimagicFirst of "+name, l, e, x.first, x.e)
	}
}

// antimagicOf returns the antimagic labellings of a graph, in lexicographic order.
func antimagicOf(g api.Graph) [][]int {
	var all [][]int
	for _, labels := range permutations(len(g.Edges)) {
		sums := make([]int, g.Vertices)
		for i, edge := range g.Edges {
			sums[edge[0]] += labels[i]
			sums[edge[1]] += labels[i]
		}
		slices.Sort(sums)
		if len(slices.Compact(sums)) == g.Vertices {
			all = append(all, labels)
		}
	}
	return all
}

func TestAntimagic(t *testing.T) { // P7.5: compared with all labellings
	random := rand.New(rand.NewSource(78))
	graphs := []api.Graph{path(9), cycle(8), star(7), graph(16), graph(5, [2]int{0, 1}, [2]int{2, 3}, [2]int{3, 4})}
	for range 40 {
		graphs = append(graphs, someGraph(random, 1+random.Intn(6), 1+random.Intn(12)))
	}
	later := 0
	for _, g := range graphs {
		if len(g.Edges) > 8 {
			continue
		}
		all := antimagicOf(g)
		n, e := AntimagicCount(g)
		wantNumber(t, "AntimagicCount", n, e, len(all), api.OK)
		l, e := AntimagicFirst(g)
		if len(all) == 0 {
			wantList(t, "AntimagicFirst", l, e, nil, api.ErrNone)
			continue
		}
		wantList(t, "AntimagicFirst", l, e, all[0], api.OK)
		if !slices.IsSorted(l) {
			later++
		}
	}
	want(t, "the first one is not always 1, 2, ..", later > 3, true)
}

func TestLabellingErrors(t *testing.T) { // P7.5
	constants, antimagic := badGraphs(), badGraphs()
	constants["10 cells"] = badGraph{graph(7, [2]int{0, 1}, [2]int{1, 2}, [2]int{2, 3}), api.ErrLimit}
	constants["48 cells"] = badGraph{someGraph(rand.New(rand.NewSource(79)), 16, 32), api.ErrLimit}
	for name, b := range constants {
		x, e := EdgeConstants(b.g)
		wantList(t, "EdgeConstants of "+name, x, e, nil, b.e)
		x, e = VertexConstants(b.g)
		wantList(t, "VertexConstants of "+name, x, e, nil, b.e)
	}
	for _, vertices := range []int{1, 9, 10, 16} {
		x, e := EdgeConstants(graph(vertices))
		wantList(t, "EdgeConstants without edges", x, e, nil, api.ErrEmpty)
	}
	x, e := VertexConstants(graph(10))
	wantList(t, "VertexConstants of ten vertices", x, e, nil, api.ErrLimit)
	x, e = VertexConstants(cycle(5))
	wantList(t, "VertexConstants of ten cells", x, e, nil, api.ErrLimit)
	x, e = EdgeConstants(path(5))
	want(t, "EdgeConstants of nine cells", []any{len(x) > 0, e}, []any{true, api.OK})
	antimagic["9 edges"] = badGraph{path(10), api.ErrLimit}
	antimagic["9 edges of few vertices"] = badGraph{graph(5, [2]int{0, 1}, [2]int{0, 2}, [2]int{0, 3}, [2]int{0, 4}, [2]int{1, 2}, [2]int{1, 3}, [2]int{1, 4}, [2]int{2, 3}, [2]int{2, 4}), api.ErrLimit}
	for name, b := range antimagic {
		n, e := AntimagicCount(b.g)
		wantNumber(t, "AntimagicCount of "+name, n, e, 0, b.e)
		l, e := AntimagicFirst(b.g)
		wantList(t, "AntimagicFirst of "+name, l, e, nil, b.e)
	}
}
