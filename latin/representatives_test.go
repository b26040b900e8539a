package latin

import (
	"math"
	"math/rand"
	"slices"
	"testing"

	"talisman/api"
)

// leastSystem tries the elements of the sets in ascending order.
func leastSystem(sets [][]int) ([]int, bool) {
	var visit func(chosen []int) ([]int, bool)
	visit = func(chosen []int) ([]int, bool) {
		if len(chosen) == len(sets) {
			return chosen, true
		}
		for _, x := range sets[len(chosen)] {
			if !slices.Contains(chosen, x) {
				if system, found := visit(append(slices.Clone(chosen), x)); found {
					return system, true
				}
			}
		}
		return nil, false
	}
	return visit(nil)
}

// isViolation reports what the definition says of numbers of sets that ascend.
func isViolation(sets [][]int, chosen []int) bool {
	var elements []int
	for _, number := range chosen {
		elements = append(elements, sets[number]...)
	}
	slices.Sort(elements)
	return len(slices.Compact(elements)) < len(chosen)
}

// setsOf copies sets.
func setsOf(sets [][]int) [][]int {
	var all [][]int
	for _, set := range sets {
		all = append(all, slices.Clone(set))
	}
	return all
}

// someSets returns sets of elements below a number.
func someSets(random *rand.Rand, count, below, most int) [][]int {
	var sets [][]int
	for range count {
		set := random.Perm(below)[:random.Intn(most+1)]
		slices.Sort(set)
		sets = append(sets, set)
	}
	return sets
}

// wantRepresented compares Represent and Hall with the least system.
func wantRepresented(t *testing.T, sets [][]int) bool {
	t.Helper()
	before := setsOf(sets)
	system, e := Represent(sets)
	violation, hallError := Hall(sets)
	wanted, found := leastSystem(sets)
	if found {
		want(t, "errors", []api.Errno{e, hallError}, []api.Errno{api.OK, api.ErrNone})
		wantList(t, "Represent", system, wanted)
		want(t, "length of no violation", len(violation), 0)
	} else {
		want(t, "errors", []api.Errno{e, hallError}, []api.Errno{api.ErrInfeasible, api.OK})
		want(t, "length of no system", len(system), 0)
		wantViolation(t, sets, violation)
	}
	want(t, "the sets afterwards", setsOf(sets), before)
	return found
}

// wantViolation reports a list that is no violation in ascending order.
func wantViolation(t *testing.T, sets [][]int, violation []int) {
	t.Helper()
	want(t, "a violation ascends", slices.Equal(slices.Compact(slices.Sorted(slices.Values(violation))), violation), true)
	want(t, "a violation", isViolation(sets, violation), true)
	want(t, "CheckHall", CheckHall(sets, violation), api.OK)
}

func TestRepresentExamples(t *testing.T) { // P4.6
	system, e := Represent([][]int{{0, 1}, {0}, {1, 2}})
	want(t, "a system", []any{system, e}, []any{[]int{1, 0, 2}, api.OK})
	three := [][]int{{0, 1}, {0, 1}, {0, 1}}
	system, e = Represent(three)
	want(t, "no system", []any{len(system), e}, []any{0, api.ErrInfeasible})
	violation, e := Hall(three)
	want(t, "a violation", []any{violation, e}, []any{[]int{0, 1, 2}, api.OK})
	want(t, "CheckHall", CheckHall(three, violation), api.OK)
	for _, sets := range [][][]int{
		nil, {{}}, {{7}}, {{0}, {}}, {{}, {0}}, {{0, api.MaxNumber}, {0}}, {{5}, {5}}, {{0}, {1}}, {{1}, {0}},
		{{0, 1, 2}, {0, 1}, {0}}, {{0, 1, 2}, {0, 1}, {0}, {3}}, {{0, 1}, {1, 2}, {2, 3}, {0, 3}}, {{0, 1}, {0, 1}, {0, 1, 2}},
		{{0, 1}, {0, 2}, {0}}, {{0, 5}, {1, 6}, {2, 7}, {0}, {1}, {2}}, {{0, 1, 9}, {0}, {1}, {9, 10}},
	} {
		wantRepresented(t, sets)
	}
}

func TestRepresent(t *testing.T) { // P4.6, P4.9
	random := rand.New(rand.NewSource(13))
	systems, violations := 0, 0
	for range 20000 {
		count := random.Intn(7) + 1
		if wantRepresented(t, someSets(random, count, count+random.Intn(3), min(count, 1+random.Intn(4)))) {
			systems++
		} else {
			violations++
		}
	}
	want(t, "some of each", systems > 2000 && violations > 2000, true)
}

// isLeast reports whether a system is one, and whether no element can be
// exchanged for a lesser one while those before it stay.
func isLeast(sets [][]int, system []int) bool {
	pinned := slices.Clone(sets)
	for i, x := range system {
		for _, y := range sets[i] {
			if y >= x {
				break
			}
			pinned[i] = []int{y}
			if hasSystem(pinned) {
				return false
			}
		}
		pinned[i] = []int{x}
	}
	return hasSystem(pinned)
}

// hasSystem looks for a chain of exchanges for one set after another.
func hasSystem(sets [][]int) bool {
	holders := map[int]int{}
	for set := range sets {
		seen := map[int]bool{}
		var improve func(set int) bool
		improve = func(set int) bool {
			for _, x := range sets[set] {
				if seen[x] {
					continue
				}
				seen[x] = true
				if holder, held := holders[x]; !held || improve(holder) {
					holders[x] = set
					return true
				}
			}
			return false
		}
		if !improve(set) {
			return false
		}
	}
	return true
}

func TestRepresentOfLimits(t *testing.T) { // P4.6
	random := rand.New(rand.NewSource(14))
	systems, violations := 0, 0
	for range 60 {
		below := 32 + random.Intn(3)
		sets := someSets(random, 32, below, 1+random.Intn(8))
		for i, x := range random.Perm(32) { // one system is there
			if !slices.Contains(sets[i], x) && random.Intn(40) > 0 {
				sets[i] = append(sets[i], x)
				slices.Sort(sets[i])
			}
		}
		system, e := Represent(sets)
		violation, hallError := Hall(sets)
		if e == api.OK {
			systems++
			want(t, "Hall of sets with a system", []any{len(violation), hallError}, []any{0, api.ErrNone})
			want(t, "the least system", isLeast(sets, system), true)
		} else {
			violations++
			want(t, "errors", []api.Errno{e, hallError}, []api.Errno{api.ErrInfeasible, api.OK})
			wantViolation(t, sets, violation)
		}
	}
	want(t, "some of each", systems > 5 && violations > 5, true)
	var equal [][]int
	for range 32 {
		equal = append(equal, upTo(64))
	}
	system, e := Represent(equal)
	want(t, "32 sets of 64 elements", []any{system, e}, []any{upTo(32), api.OK})
	for i := range equal {
		equal[i] = upTo(31)
	}
	violation, e := Hall(equal)
	want(t, "32 sets of 31 elements", []any{violation, e}, []any{upTo(32), api.OK})
}

// upTo returns the numbers from 0 to n - 1.
func upTo(n int) []int {
	var list []int
	for x := range n {
		list = append(list, x)
	}
	return list
}

func TestErrorsOfSets(t *testing.T) { // P4.6
	many := make([][]int, 33)
	long := append(upTo(64), 100)
	for what, row := range map[string]struct {
		sets [][]int
		e    api.Errno
	}{
		"33 sets":                     {many, api.ErrMany},
		"33 sets, one with an error":  {append(many[:32:32], []int{-1}), api.ErrMany},
		"65 elements":                 {[][]int{long}, api.ErrMany},
		"65 elements, out of range":   {[][]int{append(upTo(64), -1)}, api.ErrMany},
		"a number below 0":            {[][]int{{-1, 0}}, api.ErrRange},
		"a number too large":          {[][]int{{0, api.MaxNumber + 1}}, api.ErrRange},
		"the least number":            {[][]int{{math.MinInt}}, api.ErrRange},
		"the greatest number":         {[][]int{{math.MaxInt}}, api.ErrRange},
		"an order, and out of range":  {[][]int{{1, 0, -1}}, api.ErrRange},
		"a wrong order":               {[][]int{{1, 0}}, api.ErrOrder},
		"an element twice":            {[][]int{{0, 3, 3}}, api.ErrOrder},
		"a wrong order at the end":    {[][]int{{0, 1, 2, 1}}, api.ErrOrder},
		"an order, then a range":      {[][]int{{0}, {1, 0}, {-1}}, api.ErrOrder},
		"a range, then an order":      {[][]int{{0}, {-1}, {1, 0}}, api.ErrRange},
		"an order, then 65 elements":  {[][]int{{1, 0}, long}, api.ErrOrder},
		"65 elements, then an order":  {[][]int{long, {1, 0}}, api.ErrMany},
		"no system, and an error":     {[][]int{{}, {}, {-1}}, api.ErrRange},
		"a wrong order in the last":   {append(slices.Repeat([][]int{{0}}, 31), []int{1, 1}), api.ErrOrder},
		"a range in the second of 32": {slices.Concat([][]int{{0}, {-5}}, slices.Repeat([][]int{{1, 1}}, 30)), api.ErrRange},
	} {
		system, e := Represent(row.sets)
		want(t, "Represent of "+what, []any{len(system), e}, []any{0, row.e})
		violation, e := Hall(row.sets)
		want(t, "Hall of "+what, []any{len(violation), e}, []any{0, row.e})
		for _, chosen := range [][]int{nil, {0, 1}, {99}, {1, 0}} {
			want(t, "CheckHall of "+what, CheckHall(row.sets, chosen), row.e)
		}
	}
	system, e := Represent([][]int{upTo(64), {api.MaxNumber}})
	want(t, "the limits", []any{system, e}, []any{[]int{0, api.MaxNumber}, api.OK})
	system, e = Represent(many[:32])
	want(t, "32 sets", []any{len(system), e}, []any{0, api.ErrInfeasible})
}

func TestCheckHall(t *testing.T) { // P4.6
	three := [][]int{{0, 1}, {0, 1}, {0, 1}}
	for _, row := range []struct {
		sets   [][]int
		chosen []int
		e      api.Errno
	}{
		{three, []int{0, 1, 2}, api.OK}, {three, []int{0, 1}, api.ErrProof}, {three, nil, api.ErrProof},
		{nil, nil, api.ErrProof}, {nil, []int{0}, api.ErrUnknown}, {[][]int{{}}, []int{0}, api.OK},
		{three, []int{1, 0}, api.ErrOrder}, {three, []int{0, 0, 1, 2}, api.ErrOrder}, {three, []int{0, 1, 1}, api.ErrOrder},
		{three, []int{0, 3}, api.ErrUnknown}, {three, []int{-1, 0, 1, 2}, api.ErrUnknown}, {three, []int{3}, api.ErrUnknown},
		{three, []int{1, 0, 9}, api.ErrOrder}, {three, []int{9, 1, 0}, api.ErrUnknown}, {three, []int{1, -1}, api.ErrUnknown},
		{three, []int{0, 1, 2, 2}, api.ErrOrder}, {three, []int{0, 1, 2, 3}, api.ErrUnknown},
		{three, []int{math.MinInt}, api.ErrUnknown}, {three, []int{0, math.MaxInt}, api.ErrUnknown},
		{[][]int{{0}, {0}, {1, 2}}, []int{0, 1}, api.OK}, {[][]int{{0}, {0}, {1, 2}}, []int{0, 1, 2}, api.ErrProof},
		{[][]int{{0}, {0}, {1}}, []int{0, 1, 2}, api.OK}, {[][]int{{0}, {0}, {1}}, []int{0, 2}, api.ErrProof},
	} {
		sets, chosen := setsOf(row.sets), slices.Clone(row.chosen)
		want(t, "CheckHall", CheckHall(row.sets, row.chosen), row.e)
		want(t, "the arguments afterwards", []any{setsOf(row.sets), row.chosen}, []any{sets, chosen})
	}
	random := rand.New(rand.NewSource(15))
	for range 2000 {
		sets := someSets(random, 5, 5, 3)
		for code := range 32 {
			var chosen []int
			for i := range 5 {
				if code>>i&1 == 1 {
					chosen = append(chosen, i)
				}
			}
			e := api.ErrProof
			if isViolation(sets, chosen) {
				e = api.OK
			}
			want(t, "CheckHall", CheckHall(sets, chosen), e)
		}
	}
}

func TestExtendExamples(t *testing.T) { // P4.5
	g, e := Extend(api.Grid{Rows: 1, Cols: 3, Cells: []int{0, 1, 2}})
	wantGrid(t, "Extend of 0 1 2", g, e, api.Grid{Rows: 2, Cols: 3, Cells: []int{0, 1, 2, 1, 2, 0}}, api.OK)
	for n := 1; n <= 16; n++ {
		for _, cells := range [][]int{nil, {}} {
			g, e := Extend(api.Grid{Cols: n, Cells: cells})
			wantGrid(t, "the first row", g, e, api.Grid{Rows: 1, Cols: n, Cells: upTo(n)}, api.OK)
		}
	}
	g, e = Extend(api.Grid{Rows: 2, Cols: 4, Cells: []int{1, 0, 2, 3, 0, 1, 3, 2}})
	wantGrid(t, "a row that is not the first choice", g, e, api.Grid{Rows: 3, Cols: 4, Cells: []int{1, 0, 2, 3, 0, 1, 3, 2, 2, 3, 0, 1}}, api.OK)
}

// leastRow returns the least permutation that fits below a rectangle.
func leastRow(r api.Grid) []int {
next:
	for _, row := range permutations(r.Cols) {
		for j, x := range row {
			if columnHas(r, j, x) {
				continue next
			}
		}
		return row
	}
	return nil
}

func TestExtend(t *testing.T) { // P4.5, P4.9
	random := rand.New(rand.NewSource(16))
	for _, l := range samples() {
		n := l.Rows
		for rows := range n {
			from := random.Intn(n - rows)
			r := api.Grid{Rows: rows, Cols: n, Cells: slices.Clone(l.Cells[n*from : n*(from+rows)])}
			before := copyOf(r)
			g, e := Extend(r)
			want(t, "error of Extend", e, api.OK)
			want(t, "shape of Extend", []int{g.Rows, g.Cols}, []int{rows + 1, n})
			want(t, "Extend is latin", isLatin(g), true)
			wantList(t, "the rows that were there", g.Cells[:n*rows], r.Cells)
			if n <= 7 {
				want(t, "the least row", g.Cells[n*rows:], leastRow(r))
			}
			wantApart(t, "Extend", []api.Grid{g}, r.Cells)
			want(t, "the rectangle afterwards", r, before)
		}
	}
	for n := 1; n <= 16; n++ {
		g := api.Grid{Cols: n}
		for range n {
			g, _ = Extend(g)
		}
		want(t, "one row after another", []any{isLatin(g), Check(g)}, []any{true, api.OK})
		g, e := Extend(g)
		wantGrid(t, "no further row", g, e, api.Grid{}, api.ErrNone)
	}
}

func TestErrorsOfExtend(t *testing.T) { // P4.5
	rectangle := func(rows, cols int, cells ...int) api.Grid {
		return api.Grid{Rows: rows, Cols: cols, Cells: cells}
	}
	for what, row := range map[string]badGrid{
		"nothing":                    {api.Grid{}, api.ErrShape},
		"no columns":                 {rectangle(1, 0), api.ErrShape},
		"columns below 0":            {rectangle(-1, -1, 0), api.ErrShape},
		"rows below 0":               {rectangle(-1, 2), api.ErrShape},
		"17 columns":                 {rectangle(1, 17, upTo(17)...), api.ErrShape},
		"17 columns without rows":    {rectangle(0, 17), api.ErrShape},
		"more rows than columns":     {rectangle(3, 2, 0, 1, 1, 0, 0, 1), api.ErrShape},
		"a cell too few":             {rectangle(2, 3, 0, 1, 2, 1, 2), api.ErrShape},
		"a cell too many":            {rectangle(1, 3, 0, 1, 2, 1), api.ErrShape},
		"cells without rows":         {rectangle(0, 3, 0), api.ErrShape},
		"rows without cells":         {rectangle(1, 3), api.ErrShape},
		"the greatest numbers":       {rectangle(math.MaxInt, math.MaxInt, 0), api.ErrShape},
		"the least numbers":          {rectangle(math.MinInt, math.MinInt), api.ErrShape},
		"rows whose product is 0":    {rectangle(math.MinInt, 2), api.ErrShape},
		"a shape, and wrong symbols": {rectangle(2, 3, 5, 5, 5), api.ErrShape},
		"a number below 0":           {rectangle(1, 3, 0, 1, -1), api.ErrRange},
		"a number too large":         {rectangle(1, 3, 0, 1, 3), api.ErrRange},
		"the greatest number":        {rectangle(1, 1, math.MaxInt), api.ErrRange},
		"twice, and out of range":    {rectangle(2, 3, 0, 0, 0, 1, 2, 3), api.ErrRange},
		"a symbol twice in a row":    {rectangle(1, 3, 0, 1, 1), api.ErrLatin},
		"a symbol twice in a column": {rectangle(2, 3, 0, 1, 2, 0, 2, 1), api.ErrLatin},
		"a square with a symbol":     {rectangle(2, 2, 0, 1, 0, 1), api.ErrLatin},
		"a square out of range":      {rectangle(2, 2, 0, 1, 1, 2), api.ErrRange},
		"a latin square":             {rectangle(2, 2, 0, 1, 1, 0), api.ErrNone},
		"the order 1":                {rectangle(1, 1, 0), api.ErrNone},
		"the order 16":               {cyclic(16), api.ErrNone},
	} {
		g, e := Extend(row.g)
		wantGrid(t, what, g, e, api.Grid{}, row.e)
	}
}
