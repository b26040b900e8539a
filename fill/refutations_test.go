package fill

import (
	"math"
	"math/rand"
	"slices"
	"testing"

	"talisman/api"
	"talisman/lines"
)

// branchOf is a node with the trees of its kids, and the choice of each kid.
type branchOf struct {
	node    api.Node
	kids    []branchOf
	cells   []int
	numbers []int
}

// isOut reports whether a line is out of reach.
func isOut(t Task, line int) bool {
	least, greatest := boundsOf(t, t.System.Lines[line])
	return t.Sum < least || t.Sum > greatest
}

// parsed reads the tree that refutes a task from the beginning of a list, and
// returns it with the nodes behind it.
func parsed(t Task, list []api.Node) (b branchOf, behind []api.Node, ok bool) {
	if len(list) == 0 {
		return branchOf{}, nil, false
	}
	b.node, behind = list[0], list[1:]
	switch n := b.node; n.Kind {
	case "line":
		ok = n.Line >= 0 && n.Line < len(t.System.Lines) && n == api.Node{Kind: "line", Line: n.Line}
		return b, behind, ok && isOut(t, n.Line)
	case "cell":
		if !slices.Contains(openOf(t), n.Cell) || n.Line != 0 || n.Number != 0 {
			return b, nil, false
		}
		b.numbers = unusedOf(t)
		b.cells = slices.Repeat([]int{n.Cell}, len(b.numbers))
	case "number":
		if !slices.Contains(unusedOf(t), n.Number) || n.Line != 0 || n.Cell != 0 {
			return b, nil, false
		}
		b.cells = openOf(t)
		b.numbers = slices.Repeat([]int{n.Number}, len(b.cells))
	default:
		return b, nil, false
	}
	if b.node.Kids != len(b.cells) {
		return b, nil, false
	}
	for k, cell := range b.cells {
		var kid branchOf
		kid, behind, ok = parsed(with(t, cell, b.numbers[k]), behind)
		if !ok {
			return b, nil, false
		}
		b.kids = append(b.kids, kid)
	}
	return b, behind, true
}

// errorOf returns what CheckRefute has to return for a task without an error.
func errorOf(t Task, list []api.Node) api.Errno {
	for _, n := range list {
		if !slices.Contains([]string{"line", "cell", "number"}, n.Kind) {
			return api.ErrKind
		}
		if n.Kids < 0 || n.Kids > t.System.Cells {
			return api.ErrRange
		}
	}
	if _, behind, ok := parsed(t, list); !ok || len(behind) > 0 {
		return api.ErrProof
	}
	return api.OK
}

// impossible returns tasks without solutions.
func impossible(seed int64, number int) []Task {
	list := []Task{square(15, 1, 0, 0, 0, 0, 0, 0, 0, 0), square(15, 1, 2, 0, 0, 0, 0, 0, 0, 0), square(15, 2, 7, 6, 0, 4, 0, 0, 0, 0), pairs(0, 1, 0, 4), pairs(1, 2, 3, 4), taskOf(2, []int{1}, []int{0})}
	for _, t := range someTasks(seed, 10*number, 6) {
		if len(solutionsOf(t)) == 0 && len(list) < number {
			list = append(list, t)
		}
	}
	return list
}

func TestRefute(t *testing.T) { // P6.4
	refuted, solved := 0, 0
	for i, x := range append(someTasks(12, 1500, 6), square(16, make([]int, 9)...), square(14, make([]int, 9)...), square(15, make([]int, 9)...)) {
		tree, e := Refute(x)
		if n, _ := Count(x); n > 0 {
			solved++
			wantList(t, "Refute of what has a solution", tree, e, nil, api.ErrMore)
			continue
		}
		refuted++
		want(t, "a refutation", []any{e, errorOf(x, tree)}, []any{api.OK, api.OK})
		want(t, "CheckRefute", CheckRefute(x, tree), api.OK)
		if t.Failed() {
			t.Fatal(i, x, tree)
		}
	}
	want(t, "both happened", refuted > 300 && solved > 300, true)
	tree, e := Refute(square(15, 1, 2, 0, 0, 0, 0, 0, 0, 0))
	wantList(t, "Refute of 1 2 0", tree, e, []api.Node{{Kind: "line"}}, api.OK)
}

func TestRefutationsOfLargeTasks(t *testing.T) { // P6.4
	s4, _ := lines.SquareSystem("magic", 4)
	star, _ := lines.Star(6)
	corners := make([]int, 16)
	corners[0], corners[3], corners[12] = 1, 2, 3
	for _, x := range []Task{{System: s4, Sum: 34, Given: corners}, {System: s4, Sum: 24, Given: make([]int, 16)}, {System: star, Sum: 24, Given: make([]int, 12)}} {
		tree, e := Refute(x)
		want(t, "Refute", e, api.OK)
		want(t, "a refutation", errorOf(x, tree), api.OK)
		want(t, "CheckRefute", CheckRefute(x, tree), api.OK)
	}
	for _, x := range []Task{free(17), {System: api.System{Cells: 17, Lines: [][]int{{0}}}, Sum: 18, Given: make([]int, 17)}} {
		tree, e := Refute(x)
		wantList(t, "Refute of 17 open cells", tree, e, nil, api.ErrLimit)
	}
}

func TestCheckRefuteOf256Cells(t *testing.T) { // P6.4: more open cells than those that Refute takes on
	x := free(256)
	x.System.Lines, x.Sum = [][]int{{5, 255}, {5}}, 257
	want(t, "a line", CheckRefute(x, []api.Node{{Kind: "line", Line: 1}}), api.OK)
	want(t, "another line", CheckRefute(x, []api.Node{{Kind: "line"}}), api.ErrProof)
	x.System.Lines = [][]int{{5, 255}, {5, 254}}
	tree := []api.Node{{Kind: "cell", Cell: 5, Kids: 256}}
	for x := 1; x <= 256; x++ { // in the cell 5, so that 257 - x would be in both others
		tree = append(tree, api.Node{Kind: "cell", Cell: 255, Kids: 255})
		for y := 1; y <= 256; y++ {
			switch y {
			case x:
			case 257 - x:
				tree = append(tree, api.Node{Kind: "cell", Cell: 254, Kids: 254})
				tree = append(tree, slices.Repeat([]api.Node{{Kind: "line", Line: 1}}, 254)...)
			default:
				tree = append(tree, api.Node{Kind: "line"})
			}
		}
	}
	want(t, "a tree", CheckRefute(x, tree), api.OK)
	want(t, "a tree without its last node", CheckRefute(x, tree[:len(tree)-1]), api.ErrProof)
	x.System.Lines[1] = []int{6, 254}
	want(t, "a tree for another task", CheckRefute(x, tree), api.ErrProof)
}

func TestCheckRefute(t *testing.T) { // P6.4
	first, second := square(15, 1, 2, 0, 0, 0, 0, 0, 0, 0), pairs(0, 1, 0, 4)
	line, other := api.Node{Kind: "line"}, api.Node{Kind: "line", Line: 1}
	for i, x := range []struct {
		t    Task
		tree []api.Node
		e    api.Errno
	}{
		{first, []api.Node{line}, api.OK},
		{first, []api.Node{other}, api.ErrProof},
		{first, nil, api.ErrProof},
		{first, []api.Node{line, line}, api.ErrProof},
		{first, []api.Node{{Kind: "line", Kids: 1}}, api.ErrProof},
		{first, []api.Node{{Kind: "line", Cell: 1}}, api.ErrProof},
		{first, []api.Node{{Kind: "line", Number: 1}}, api.ErrProof},
		{first, []api.Node{{Kind: "line", Line: 8}}, api.ErrProof},
		{first, []api.Node{{Kind: "line", Line: -1}}, api.ErrProof},
		{first, []api.Node{{Kind: "line", Line: math.MaxInt}}, api.ErrProof},
		{first, []api.Node{{Kind: "row"}}, api.ErrKind},
		{first, []api.Node{{}}, api.ErrKind},
		{first, []api.Node{{Kind: "Line"}}, api.ErrKind},
		{first, []api.Node{{Kind: "line", Kids: 10}}, api.ErrRange},
		{first, []api.Node{{Kind: "line", Kids: -1}}, api.ErrRange},
		{first, []api.Node{line, {Kind: "line", Kids: 10}, {Kind: "row"}}, api.ErrRange},
		{first, []api.Node{line, {Kind: "row", Kids: 10}, {Kind: "line", Kids: 10}}, api.ErrKind},
		{first, []api.Node{{Kind: "cell", Cell: 9, Kids: 7}}, api.ErrProof},
		{first, []api.Node{{Kind: "cell", Cell: -1, Kids: 7}}, api.ErrProof},
		{first, []api.Node{{Kind: "cell", Cell: math.MinInt}}, api.ErrProof},
		{first, []api.Node{{Kind: "number", Number: math.MaxInt}}, api.ErrProof},
		{first, []api.Node{{Kind: "number", Number: 0}}, api.ErrProof},
		{first, []api.Node{{Kind: "number", Number: 10, Kids: 7}}, api.ErrProof},
		{second, []api.Node{{Kind: "cell", Kids: 2}, line, line}, api.OK},
		{second, []api.Node{{Kind: "cell", Kids: 2}, line}, api.ErrProof},
		{second, []api.Node{{Kind: "cell", Kids: 1}, line}, api.ErrProof},
		{second, []api.Node{{Kind: "cell", Kids: 3}, line, line, line}, api.ErrProof},
		{second, []api.Node{{Kind: "cell", Kids: 2}, line, line, line}, api.ErrProof},
		{second, []api.Node{{Kind: "cell", Kids: 2, Number: 2}, line, line}, api.ErrProof},
		{second, []api.Node{{Kind: "cell", Kids: 2, Line: 1}, line, line}, api.ErrProof},
		{second, []api.Node{{Kind: "number", Number: 2, Kids: 2}, line, other}, api.OK},
		{second, []api.Node{{Kind: "number", Number: 2, Kids: 2}, line, {Kind: "line", Line: 2}}, api.ErrProof},
		{second, []api.Node{{Kind: "number", Number: 2, Kids: 2, Cell: 2}, line, other}, api.ErrProof},
		{second, []api.Node{{Kind: "number", Number: 2, Kids: 2, Line: 1}, line, other}, api.ErrProof},
		{second, []api.Node{{Kind: "number", Number: 1, Kids: 2}, line, other}, api.ErrProof},
		{second, []api.Node{{Kind: "cell", Cell: 1, Kids: 2}, line, other}, api.ErrProof},
		{pairs(1, 4, 2, 3), []api.Node{{Kind: "cell"}}, api.ErrProof},
		{pairs(1, 4, 2, 3), []api.Node{{Kind: "number"}}, api.ErrProof},
		{pairs(1, 2, 3, 4), []api.Node{{Kind: "number"}}, api.ErrProof},
		{pairs(1, 2, 3, 4), []api.Node{other}, api.OK},
		{free(2), []api.Node{line}, api.ErrProof},
		{free(2), []api.Node{{Kind: "cell", Kids: 2}, {Kind: "cell", Cell: 1, Kids: 1}, {Kind: "cell"}}, api.ErrProof},
	} {
		want(t, "CheckRefute", []any{i, CheckRefute(x.t, x.tree)}, []any{i, x.e})
		want(t, "its definition", []any{i, errorOf(x.t, x.tree)}, []any{i, x.e})
	}
}

func TestSizesOfRefutations(t *testing.T) { // P6.4
	first := square(15, 1, 2, 0, 0, 0, 0, 0, 0, 0)
	tree := slices.Repeat([]api.Node{{Kind: "line"}}, api.MaxBudget+1)
	want(t, "a node too many", CheckRefute(first, tree), api.ErrMany)
	want(t, "as many nodes as permitted", CheckRefute(first, tree[1:]), api.ErrProof)
	tree[0].Kind = "row"
	want(t, "a node too many, and no kind", CheckRefute(first, tree), api.ErrMany)
	want(t, "no kind", CheckRefute(first, tree[:api.MaxBudget]), api.ErrKind)
}

func TestChangedRefutations(t *testing.T) { // P6.4: fields and nodes are changed
	random := rand.New(rand.NewSource(13))
	right := 0
	for i, x := range impossible(14, 150) {
		tree, _ := Refute(x)
		for range 60 {
			changed := slices.Clone(tree)
			at := random.Intn(len(changed))
			n := &changed[at]
			field := []*int{&n.Cell, &n.Line, &n.Number, &n.Kids}[random.Intn(4)]
			switch random.Intn(5) {
			case 0:
				n.Kind = []string{"line", "cell", "number"}[random.Intn(3)]
			case 1:
				changed = slices.Delete(changed, at, at+1)
			case 2:
				changed = slices.Insert(changed, at, tree[random.Intn(len(tree))])
			default:
				*field += random.Intn(3) - 1
			}
			e := errorOf(x, changed)
			want(t, "CheckRefute", []any{i, changed, CheckRefute(x, changed)}, []any{i, changed, e})
			if e == api.OK {
				right++
			}
		}
	}
	want(t, "some are refutations", right > 500 && right < 8500, true)
}
