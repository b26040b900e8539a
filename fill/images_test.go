package fill

import (
	"math/rand"
	"slices"
	"sort"
	"testing"

	"talisman/api"
	"talisman/group"
	"talisman/lines"
)

// sizesAreEqual reports whether there are lines, and all of them have one length.
func sizesAreEqual(t Task) bool {
	for _, line := range t.System.Lines {
		if len(line) != len(t.System.Lines[0]) {
			return false
		}
	}
	return len(t.System.Lines) > 0
}

// imageOf is the image of a task, as the document has it.
func imageOf(t Task, m api.Symmetry) Task {
	image := copied(t)
	for _, line := range image.System.Lines {
		for i := range line {
			line[i] = m.Cells[line[i]]
		}
		sort.Ints(line)
	}
	for cell, x := range t.Given {
		if m.Complement && x != 0 {
			x = t.System.Cells + 1 - x
		}
		image.Given[m.Cells[cell]] = x
	}
	if m.Complement {
		image.Sum = len(t.System.Lines[0])*(t.System.Cells+1) - t.Sum
	}
	return image
}

// moved is the image of a tree, as the document has it.
func (b branchOf) moved(m api.Symmetry) []api.Node {
	n := b.node
	order := make([]int, len(b.kids))
	for k := range order {
		order[k] = k
	}
	switch n.Kind {
	case "cell":
		n.Cell = m.Cells[n.Cell]
		if m.Complement {
			slices.Reverse(order)
		}
	case "number":
		sort.Slice(order, func(i, k int) bool { return m.Cells[b.cells[order[i]]] < m.Cells[b.cells[order[k]]] })
		if m.Complement {
			n.Number = len(m.Cells) + 1 - n.Number
		}
	}
	list := []api.Node{n}
	for _, k := range order {
		list = append(list, b.kids[k].moved(m)...)
	}
	return list
}

func someSymmetry(random *rand.Rand, t Task) api.Symmetry {
	return api.Symmetry{Cells: random.Perm(t.System.Cells), Complement: random.Intn(2) == 0}
}

func TestMoveTask(t *testing.T) { // P6.6
	random := rand.New(rand.NewSource(15))
	errors := map[api.Errno]int{}
	for i, x := range someTasks(16, 1500, 7) {
		m := someSymmetry(random, x)
		image, e := MoveTask(x, m)
		errors[e]++
		switch {
		case m.Complement && !sizesAreEqual(x):
			want(t, "MoveTask with lines of different sizes", []any{i, image, e}, []any{i, Task{}, api.ErrShape})
		case m.Complement && imageOf(x, m).Sum < 1:
			want(t, "MoveTask with a small sum", []any{i, image, e}, []any{i, Task{}, api.ErrRange})
		default:
			want(t, "MoveTask", []any{i, copied(image), e}, []any{i, imageOf(x, m), api.OK})
			want(t, "CheckTask of an image", CheckTask(image), api.OK)
		}
	}
	want(t, "all of this happened", errors[api.OK] > 500 && errors[api.ErrShape] > 100, true)
}

func TestMoveTree(t *testing.T) { // P6.6
	random := rand.New(rand.NewSource(17))
	all := map[bool]int{}
	tasks := impossible(18, 200)
	s4, _ := lines.SquareSystem("magic", 4)
	tasks = append(tasks, square(14, make([]int, 9)...), square(16, make([]int, 9)...), Task{System: s4, Sum: 24, Given: make([]int, 16)})
	for i, x := range tasks {
		tree, _ := Refute(x)
		b, _, _ := parsed(x, tree)
		for range 5 {
			m := someSymmetry(random, x)
			image, e := MoveTree(x, tree, m)
			if m.Complement && !sizesAreEqual(x) {
				wantList(t, "MoveTree with lines of different sizes", image, e, nil, api.ErrShape)
				continue
			}
			wantList(t, "MoveTree", image, e, b.moved(m), api.OK)
			if task, e := MoveTask(x, m); e == api.OK {
				want(t, "the image of a refutation", []any{i, CheckRefute(task, image)}, []any{i, api.OK})
				all[m.Complement && len(image) > 1]++
			}
			if t.Failed() {
				t.Fatal(x, tree, m)
			}
		}
	}
	want(t, "there were complements", all[true] > 20, true)
}

func TestImagesOfPairs(t *testing.T) { // P6.6
	turn, flip := api.Symmetry{Cells: []int{2, 3, 0, 1}}, api.Symmetry{Cells: []int{0, 1, 2, 3}, Complement: true}
	image, e := MoveTask(pairs(1, 0, 0, 3), turn)
	want(t, "MoveTask", []any{image, e}, []any{taskOf(5, []int{0, 3, 1, 0}, []int{2, 3}, []int{0, 1}), api.OK})
	image, e = MoveTask(pairs(1, 0, 0, 3), flip)
	want(t, "MoveTask with complements", []any{image, e}, []any{pairs(4, 0, 0, 2), api.OK})
	tree := []api.Node{{Kind: "number", Number: 2, Kids: 2}, {Kind: "line"}, {Kind: "line", Line: 1}}
	moved, e := MoveTree(pairs(0, 1, 0, 4), tree, turn)
	wantList(t, "MoveTree", moved, e, []api.Node{{Kind: "number", Number: 2, Kids: 2}, {Kind: "line", Line: 1}, {Kind: "line"}}, api.OK)
	moved, e = MoveTree(pairs(0, 1, 0, 4), tree, flip)
	wantList(t, "MoveTree of a number with complements", moved, e, []api.Node{{Kind: "number", Number: 3, Kids: 2}, {Kind: "line"}, {Kind: "line", Line: 1}}, api.OK)
	tree = []api.Node{{Kind: "cell", Cell: 2, Kids: 2}, {Kind: "line"}, {Kind: "line", Line: 1}}
	moved, e = MoveTree(pairs(0, 1, 0, 4), tree, flip)
	wantList(t, "MoveTree of a cell with complements", moved, e, []api.Node{{Kind: "cell", Cell: 2, Kids: 2}, {Kind: "line", Line: 1}, {Kind: "line"}}, api.OK)
	far := taskOf(9, []int{0, 0}, []int{0, 1})
	_, e = MoveTask(taskOf(5, []int{0, 0}, []int{0, 1}), flip2())
	want(t, "the sum 1 of an image", e, api.OK)
	_, e = MoveTask(taskOf(6, []int{0, 0}, []int{0, 1}), flip2())
	want(t, "the sum 0 of an image", e, api.ErrRange)
	moved, e = MoveTree(far, []api.Node{{Kind: "line"}}, flip2())
	wantList(t, "a refutation without a task", moved, e, []api.Node{{Kind: "line"}}, api.OK)
}

func flip2() api.Symmetry { return api.Symmetry{Cells: []int{1, 0}, Complement: true} }

func TestErrorsOfImages(t *testing.T) { // P6.6
	none, tree := pairs(0, 1, 0, 4), []api.Node{{Kind: "line"}}
	long := api.Symmetry{Cells: cellsUpTo(257)}
	different := taskOf(5, []int{0, 1, 0, 4}, []int{0, 1}, []int{1, 2, 3})
	for i, x := range []struct {
		t    Task
		tree []api.Node
		m    api.Symmetry
		task api.Errno
		e    api.Errno
	}{
		{none, tree, api.Symmetry{Cells: []int{3, 2, 1, 0}}, api.OK, api.OK},
		{none, nil, long, api.ErrRange, api.ErrRange},
		{none, nil, api.Symmetry{Cells: []int{0, 1, 2}}, api.ErrShape, api.ErrShape},
		{none, nil, api.Symmetry{}, api.ErrShape, api.ErrShape},
		{none, nil, api.Symmetry{Cells: []int{0, 1, 1}}, api.ErrPerm, api.ErrPerm},
		{none, nil, api.Symmetry{Cells: []int{0, 1, 2, 4}, Complement: true}, api.ErrPerm, api.ErrPerm},
		{none, []api.Node{{Kind: "row"}}, long, api.ErrRange, api.ErrKind},
		{none, []api.Node{{Kind: "line", Kids: 5}}, long, api.ErrRange, api.ErrRange},
		{none, slices.Repeat(tree, api.MaxBudget+1), api.Symmetry{}, api.ErrShape, api.ErrMany},
		{none, nil, api.Symmetry{Cells: []int{0, 1, 2, 3}}, api.OK, api.ErrProof},
		{none, append(tree, tree...), api.Symmetry{Cells: []int{0, 1, 2, 3}}, api.OK, api.ErrProof},
		{different, nil, api.Symmetry{Cells: []int{0, 1, 2, 3}, Complement: true}, api.ErrShape, api.ErrShape},
		{different, nil, api.Symmetry{Cells: []int{0, 1, 1, 1}, Complement: true}, api.ErrPerm, api.ErrPerm},
		{different, nil, api.Symmetry{Cells: []int{0, 1, 2, 3}}, api.OK, api.ErrProof},
		{different, tree, api.Symmetry{Cells: []int{0, 1, 2, 3}}, api.OK, api.OK},
		{free(2), nil, flip2(), api.ErrShape, api.ErrShape},
		{free(2), nil, api.Symmetry{Cells: []int{1, 0}}, api.OK, api.ErrProof},
		{taskOf(6, []int{0, 0}, []int{0, 1}), nil, flip2(), api.ErrRange, api.ErrProof},
	} {
		task, e := MoveTask(x.t, x.m)
		want(t, "MoveTask", []any{i, e}, []any{i, x.task})
		if e != api.OK {
			want(t, "the task beside an error", task, Task{})
		}
		moved, e := MoveTree(x.t, x.tree, x.m)
		want(t, "MoveTree", []any{i, e}, []any{i, x.e})
		if e != api.OK && len(moved) > 0 {
			t.Error("a tree beside an error", i)
		}
	}
}

func TestImagesOfSquares(t *testing.T) { // P6.6: by the symmetries of the square, with which T has an image
	symmetries, _ := group.Dihedral(3)
	for _, m := range symmetries {
		for _, m.Complement = range []bool{false, true} {
			image, e := MoveTask(example(), m)
			want(t, "error of MoveTask", e, api.OK)
			f, e := Unique(image)
			moved, _ := group.Apply(m, []int{2, 7, 6, 9, 5, 1, 4, 3, 8})
			wantList(t, "the solution of an image", f, e, moved, api.OK)
		}
	}
}
