package lines

import (
	"slices"

	"talisman/api"
)

// CheckGraph returns the first error of a graph, or OK.
func CheckGraph(g api.Graph) api.Errno {
	if !isWithin(g.Vertices, 1, api.MaxVertex) {
		return api.ErrRange
	}
	if len(g.Edges) > api.MaxEdges {
		return api.ErrMany
	}
	for i, edge := range g.Edges {
		if !isWithin(edge[0], 0, g.Vertices-1) || !isWithin(edge[1], 0, g.Vertices-1) {
			return api.ErrUnknown
		}
		if edge[0] >= edge[1] {
			return api.ErrOrder
		}
		if slices.Contains(g.Edges[:i], edge) {
			return api.ErrTwice
		}
	}
	return api.OK
}

// EdgeMagic returns the system of the edge-magic total labellings of a graph.
func EdgeMagic(g api.Graph) (api.System, api.Errno) {
	if e := CheckGraph(g); e != api.OK {
		return api.System{}, e
	}
	if len(g.Edges) == 0 {
		return api.System{}, api.ErrEmpty
	}
	s := api.System{Cells: g.Vertices + len(g.Edges)}
	for i, edge := range g.Edges {
		s.Lines = append(s.Lines, []int{edge[0], edge[1], g.Vertices + i})
	}
	return s, api.OK
}

// VertexMagic returns the system of the vertex-magic total labellings of a graph.
func VertexMagic(g api.Graph) (api.System, api.Errno) {
	if e := CheckGraph(g); e != api.OK {
		return api.System{}, e
	}
	s := api.System{Cells: g.Vertices + len(g.Edges)}
	for v := range g.Vertices {
		s.Lines = append(s.Lines, []int{v})
	}
	for i, edge := range g.Edges {
		for _, v := range edge {
			s.Lines[v] = append(s.Lines[v], g.Vertices+i)
		}
	}
	return s, api.OK
}

// VertexSums returns the sum of the labels of the edges at each vertex.
func VertexSums(g api.Graph, labels []int) ([]int, api.Errno) {
	if e := CheckGraph(g); e != api.OK {
		return nil, e
	}
	if len(labels) != len(g.Edges) {
		return nil, api.ErrShape
	}
	if !isOneOn(labels) {
		return nil, api.ErrPerm
	}
	sums := make([]int, g.Vertices)
	for i, edge := range g.Edges {
		for _, v := range edge {
			sums[v] += labels[i]
		}
	}
	return sums, api.OK
}

// Antimagic reports whether labels of the edges are antimagic.
func Antimagic(g api.Graph, labels []int) (bool, api.Errno) {
	sums, e := VertexSums(g, labels)
	if e != api.OK {
		return false, e
	}
	slices.Sort(sums)
	return len(slices.Compact(sums)) == g.Vertices, api.OK
}
