package fill

import (
	"cmp"
	"slices"

	"talisman/api"
	"talisman/group"
)

// MoveTask returns the image of a task.
func MoveTask(t Task, m api.Symmetry) (Task, api.Errno) {
	if e := first(CheckTask(t), checkSymmetry(t, m), checkComplement(t, m)); e != api.OK {
		return Task{}, e
	}
	image := Task{System: api.System{Cells: t.System.Cells}, Sum: t.Sum, Given: make([]int, len(t.Given))}
	for _, line := range t.System.Lines {
		image.System.Lines = append(image.System.Lines, imageOfLine(line, m))
	}
	for cell, x := range t.Given {
		if x != 0 {
			image.Given[m.Cells[cell]] = imageOfNumber(x, m)
		}
	}
	if m.Complement {
		image.Sum = len(t.System.Lines[0])*(t.System.Cells+1) - t.Sum
	}
	if image.Sum < 1 {
		return Task{}, api.ErrRange
	}
	return image, api.OK
}

// MoveTree returns the image of a refutation.
func MoveTree(t Task, tree []api.Node, m api.Symmetry) ([]api.Node, api.Errno) {
	b, e := boardOf(t)
	if e != api.OK {
		return nil, e
	}
	if e := first(checkTree(t, tree), checkSymmetry(t, m), checkComplement(t, m), CheckRefute(t, tree)); e != api.OK {
		return nil, e
	}
	r := &reader{tree}
	return b.imageOfTree(r.next, m), api.OK
}

// checkSymmetry returns the error of a symmetry of a task.
func checkSymmetry(t Task, m api.Symmetry) api.Errno {
	if e := group.CheckSymmetry(m, len(m.Cells)); e != api.OK {
		return e
	}
	if len(m.Cells) != t.System.Cells {
		return api.ErrShape
	}
	return api.OK
}

// checkComplement returns ErrShape if lines of different lengths, or no lines,
// would get the complements of their numbers.
func checkComplement(t Task, m api.Symmetry) api.Errno {
	if !m.Complement {
		return api.OK
	}
	if len(t.System.Lines) == 0 {
		return api.ErrShape
	}
	for _, line := range t.System.Lines {
		if len(line) != len(t.System.Lines[0]) {
			return api.ErrShape
		}
	}
	return api.OK
}

func imageOfLine(line []int, m api.Symmetry) []int {
	image := make([]int, len(line))
	for i, cell := range line {
		image[i] = m.Cells[cell]
	}
	slices.Sort(image)
	return image
}

func imageOfNumber(x int, m api.Symmetry) int {
	if m.Complement {
		return len(m.Cells) + 1 - x
	}
	return x
}

// branch is the image of a kid and of its tree.
type branch struct {
	choice
	tree []api.Node
}

// imageOfTree returns the image of the tree that a function reads.
func (b *board) imageOfTree(next func() api.Node, m api.Symmetry) []api.Node {
	node := next()
	kids, _ := b.kids(node)
	branches := make([]branch, len(kids))
	for i, kid := range kids {
		b.put(kid.cell, kid.number)
		branches[i].tree = b.imageOfTree(next, m)
		b.take(kid.cell)
		branches[i].choice = choice{m.Cells[kid.cell], imageOfNumber(kid.number, m)}
	}
	// The kids of a cell differ in the number, those of a number in the cell.
	slices.SortFunc(branches, func(x, y branch) int {
		return cmp.Or(cmp.Compare(x.cell, y.cell), cmp.Compare(x.number, y.number))
	})
	switch node.Kind {
	case cellKind:
		node.Cell = m.Cells[node.Cell]
	case numberKind:
		node.Number = imageOfNumber(node.Number, m)
	}
	image := []api.Node{node}
	for _, kid := range branches {
		image = append(image, kid.tree...)
	}
	return image
}
