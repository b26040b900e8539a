package count

import (
	"iter"
	"slices"

	"talisman/api"
	"talisman/lines"
)

// mostEdges is the greatest number of edges whose labellings are gone through.
const mostEdges = 8

// EdgeConstants returns the constants of edge-magic total labellings.
func EdgeConstants(g api.Graph) ([][2]int, api.Errno) {
	s, e := lines.EdgeMagic(g)
	if e != api.OK {
		return nil, e
	}
	return Spectrum(s)
}

// VertexConstants returns the constants of vertex-magic total labellings.
func VertexConstants(g api.Graph) ([][2]int, api.Errno) {
	s, e := lines.VertexMagic(g)
	if e != api.OK {
		return nil, e
	}
	return Spectrum(s)
}

// AntimagicCount returns the number of antimagic labellings.
func AntimagicCount(g api.Graph) (int, api.Errno) {
	if e := checkGraph(g); e != api.OK {
		return 0, e
	}
	number := 0
	for range antimagicLabellings(g) {
		number++
	}
	return number, api.OK
}

// AntimagicFirst returns the first antimagic labelling.
func AntimagicFirst(g api.Graph) ([]int, api.Errno) {
	if e := checkGraph(g); e != api.OK {
		return nil, e
	}
	for labels := range antimagicLabellings(g) {
		return slices.Clone(labels), api.OK
	}
	return nil, api.ErrNone
}

// checkGraph returns the error of a graph whose labellings are to be gone through.
func checkGraph(g api.Graph) api.Errno {
	return first(lines.CheckGraph(g), atMost(mostEdges, len(g.Edges), api.ErrLimit))
}

// antimagicLabellings gives out the antimagic labellings in lexicographic order.
// They are changed afterwards.
func antimagicLabellings(g api.Graph) iter.Seq[[]int] {
	all := arrangements(len(g.Edges), func([]int) bool { return true })
	return func(yield func([]int) bool) {
		for labels := range all {
			antimagic, _ := lines.Antimagic(g, labels)
			if antimagic && !yield(labels) {
				return
			}
		}
	}
}
