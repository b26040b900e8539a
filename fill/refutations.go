package fill

import (
	"talisman/api"
)

// The kinds of nodes.
const (
	lineKind   = "line"
	cellKind   = "cell"
	numberKind = "number"
)

// Refute returns a refutation of a task without solutions.
func Refute(t Task) ([]api.Node, api.Errno) {
	b, e := searchable(t)
	if e != api.OK {
		return nil, e
	}
	if b.hasSolution() {
		return nil, api.ErrMore
	}
	var tree []api.Node
	var refute func()
	refute = func() {
		node := b.nextNode()
		tree = append(tree, node)
		kids, _ := b.kids(node)
		for _, kid := range kids {
			b.put(kid.cell, kid.number)
			refute()
			b.take(kid.cell)
		}
	}
	refute()
	return tree, api.OK
}

// CheckRefute returns OK for a refutation of a task.
func CheckRefute(t Task, tree []api.Node) api.Errno {
	b, e := boardOf(t)
	if e = first(e, checkTree(t, tree)); e != api.OK {
		return e
	}
	r := &reader{tree}
	if !b.isRefuted(r.next) || len(r.rest) > 0 {
		return api.ErrProof
	}
	return api.OK
}

// checkTree returns the error of a tree of a task without an error.
func checkTree(t Task, tree []api.Node) api.Errno {
	if len(tree) > api.MaxBudget {
		return api.ErrMany
	}
	for _, node := range tree {
		switch node.Kind {
		case lineKind, cellKind, numberKind:
		default:
			return api.ErrKind
		}
		if e := within(0, t.System.Cells, node.Kids); e != api.OK {
			return e
		}
	}
	return api.OK
}

// reader reads the nodes of a tree one after another.
type reader struct {
	rest []api.Node
}

// next returns the next node; at the end of the tree it is one of no kind.
func (r *reader) next() api.Node {
	if len(r.rest) == 0 {
		return api.Node{}
	}
	node := r.rest[0]
	r.rest = r.rest[1:]
	return node
}

// choice is a number in a cell.
type choice struct {
	cell   int
	number int
}

// kids returns the choices of the kids of a node, and whether the node fits the
// task with the numbers that are on the board.
func (b *board) kids(node api.Node) (kids []choice, fits bool) {
	switch node.Kind {
	case lineKind:
		fits = b.hasLine(node.Line) && b.isOutOfReach(node.Line)
		return nil, fits && node == api.Node{Kind: lineKind, Line: node.Line}
	case cellKind:
		kids = b.choicesOfCell(node.Cell)
		fits = node == api.Node{Kind: cellKind, Cell: node.Cell, Kids: len(kids)}
	case numberKind:
		kids = b.choicesOfNumber(node.Number)
		fits = node == api.Node{Kind: numberKind, Number: node.Number, Kids: len(kids)}
	}
	return kids, fits && len(kids) > 0
}

// choicesOfCell returns the choices for an open cell, and none if it is no open cell.
func (b *board) choicesOfCell(cell int) []choice {
	var choices []choice
	if 0 <= cell && cell < len(b.numbers) && b.numbers[cell] == 0 {
		for x := range b.unused.all {
			choices = append(choices, choice{cell, x})
		}
	}
	return choices
}

// choicesOfNumber returns the choices for an unused number, and none if it is no
// unused number.
func (b *board) choicesOfNumber(x int) []choice {
	var choices []choice
	if b.unused.has(x) {
		for _, cell := range b.openCells() {
			choices = append(choices, choice{cell, x})
		}
	}
	return choices
}

// isRefuted reports whether a function reads a tree that refutes the task with
// the numbers that are on the board.
func (b *board) isRefuted(next func() api.Node) bool {
	kids, fits := b.kids(next())
	for _, kid := range kids {
		if !fits {
			break
		}
		b.put(kid.cell, kid.number)
		fits = b.isRefuted(next)
		b.take(kid.cell)
	}
	return fits
}

// nextNode returns a line that is out of reach, or else what leaves the fewest
// choices open, of several ones if possible the cell that is bound most: this
// keeps refutations short.
func (b *board) nextNode() api.Node {
	if line, found := b.firstOutOfReach(); found {
		return api.Node{Kind: lineKind, Line: line}
	}
	var perCell, perNumber [api.MaxCells + 1]int
	cells := b.openCells()
	for _, cell := range cells {
		for x := range b.unused.all {
			b.put(cell, x)
			if _, found := b.firstOutOfReach(); !found {
				perCell[cell]++
				perNumber[x]++
			}
			b.take(cell)
		}
	}
	node, fewest := api.Node{}, len(cells)+1
	for _, cell := range append([]int{b.mostBound(cells, b.open)}, cells...) {
		if perCell[cell] < fewest {
			node, fewest = api.Node{Kind: cellKind, Cell: cell, Kids: len(cells)}, perCell[cell]
		}
	}
	for x := range b.unused.all {
		if perNumber[x] < fewest {
			node, fewest = api.Node{Kind: numberKind, Number: x, Kids: len(cells)}, perNumber[x]
		}
	}
	return node
}
