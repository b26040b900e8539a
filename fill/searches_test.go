package fill

import (
	"math"
	"math/rand"
	"slices"
	"testing"

	"talisman/api"
)

// filledBy returns the numbers of all cells with those of a path in the first open cells.
func filledBy(t Task, path []int) []int {
	f := slices.Clone(t.Given)
	for i, cell := range openOf(t)[:len(path)] {
		f[cell] = path[i]
	}
	return f
}

// isDead reports whether a path is a dead end.
func isDead(t Task, path []int) bool {
	f := filledBy(t, path)
	if !slices.Contains(f, 0) {
		return true
	}
	for _, line := range t.System.Lines {
		isOpen := slices.ContainsFunc(line, func(cell int) bool { return f[cell] == 0 })
		if !isOpen && lineSum(f, line) != t.Sum {
			return true
		}
	}
	return false
}

// nextPath returns the path with the number that is tried next, and nil at the end.
func nextPath(t Task, path []int) []int {
	path = slices.Clone(path)
	above := 0
	if isDead(t, path) {
		if len(path) == 0 {
			return nil
		}
		above, path = path[len(path)-1], path[:len(path)-1]
	}
	for x := above + 1; x <= t.System.Cells; x++ {
		if !slices.Contains(t.Given, x) && !slices.Contains(path, x) {
			return append(path, x)
		}
	}
	for len(path) > 0 {
		last := path[len(path)-1]
		path = path[:len(path)-1]
		for x := last + 1; x <= t.System.Cells; x++ {
			if !slices.Contains(t.Given, x) && !slices.Contains(path, x) {
				return append(path, x)
			}
		}
	}
	return nil
}

// record has the states of a whole search, each one behind one more number, and
// how many solutions have been found with it.
type record struct {
	states    []State
	solutions [][]int
	found     []int
}

func recordOf(t Task) record {
	r := record{states: []State{{}}, found: []int{0}}
	if len(openOf(t)) == 0 {
		if hasSums(t, t.Given) {
			r.solutions = [][]int{t.Given}
		}
	}
	for path := nextPath(t, nil); path != nil; path = nextPath(t, path) {
		if f := filledBy(t, path); len(path) == len(openOf(t)) && hasSums(t, f) {
			r.solutions = append(r.solutions, f)
		}
		r.states = append(r.states, State{Path: path, Tried: len(r.states)})
		r.found = append(r.found, len(r.solutions))
	}
	r.states = append(r.states, State{Tried: len(r.states) - 1, Done: true})
	r.found = append(r.found, len(r.solutions))
	return r
}

func TestSearches(t *testing.T) { // P6.5: from each state with some budgets
	random := rand.New(rand.NewSource(10))
	tried := 0
	for i, x := range append(someTasks(11, 500, 5), example(), square(15, 0, 7, 6, 0, 0, 0, 0, 3, 0)) {
		r := recordOf(x)
		begin, e := Begin(x)
		wantState(t, "Begin", begin, e, State{}, api.OK)
		last := len(r.states) - 1
		for from := 0; from <= last; from += 1 + random.Intn(1+last/40) {
			want(t, "CheckState", CheckState(x, r.states[from]), api.OK)
			rest, e := Rest(x, r.states[from])
			wantLists(t, "Rest", rest, e, r.solutions[r.found[from]:], api.OK)
			for _, budget := range []int{0, 1, 2, random.Intn(last + 2), last - from, last - from + 1, api.MaxBudget} {
				to := min(from+budget, last)
				state, found, e := Continue(x, r.states[from], budget)
				wantState(t, "Continue", state, e, r.states[to], api.OK)
				wantLists(t, "solutions of Continue", found, e, r.solutions[r.found[from]:r.found[to]], api.OK)
			}
		}
		tried += last
		if t.Failed() {
			t.Fatal(i, x)
		}
	}
	want(t, "many numbers were tried", tried > 10000, true)
}

func TestSearchOfTheExample(t *testing.T) { // P6.5
	x, found, e := Continue(example(), State{}, 3)
	wantState(t, "the first three numbers", x, e, State{Path: []int{1, 3, 4}, Tried: 3}, api.OK)
	wantLists(t, "their solutions", found, e, nil, api.OK)
	for _, path := range [][]int{{1, 3, 5}, {1, 3, 8}, {1, 3, 9}, {1, 4}} {
		x, found, e = Continue(example(), x, 1)
		wantList(t, "the next path", x.Path, e, path, api.OK)
		wantLists(t, "its solutions", found, e, nil, api.OK)
	}
	want(t, "the numbers tried", x.Tried, 7)
	rest, e := Rest(example(), x)
	wantLists(t, "Rest", rest, e, [][]int{{2, 7, 6, 9, 5, 1, 4, 3, 8}}, api.OK)
}

func TestEndOfSearches(t *testing.T) { // P6.5
	x, found, e := Continue(pairs(1, 0, 0, 0), State{}, 7)
	wantState(t, "the budget of all numbers", x, e, State{Path: []int{4, 3, 2}, Tried: 7}, api.OK)
	wantLists(t, "its solutions", found, e, [][]int{{1, 4, 2, 3}, {1, 4, 3, 2}}, api.OK)
	x, found, e = Continue(pairs(1, 0, 0, 0), x, 0)
	wantState(t, "no further budget", x, e, State{Path: []int{4, 3, 2}, Tried: 7}, api.OK)
	wantLists(t, "its solutions", found, e, nil, api.OK)
	rest, e := Rest(pairs(1, 0, 0, 0), x)
	wantLists(t, "the rest behind the last number", rest, e, nil, api.OK)
	x, found, e = Continue(pairs(1, 0, 0, 0), x, 1)
	wantState(t, "a further budget", x, e, State{Tried: 7, Done: true}, api.OK)
	wantLists(t, "its solutions", found, e, nil, api.OK)
	for _, s := range []struct {
		given     []int
		solutions [][]int
	}{{[]int{1, 4, 2, 3}, [][]int{{1, 4, 2, 3}}}, {[]int{1, 2, 3, 4}, nil}} {
		x, found, e = Continue(pairs(s.given...), State{}, 0)
		wantState(t, "nothing is open, and no budget", x, e, State{}, api.OK)
		wantLists(t, "its solutions", found, e, nil, api.OK)
		x, found, e = Continue(pairs(s.given...), State{Tried: 5}, 1)
		wantState(t, "nothing is open", x, e, State{Tried: 5, Done: true}, api.OK)
		wantLists(t, "its solutions", found, e, s.solutions, api.OK)
		x, found, e = Continue(pairs(s.given...), x, 1)
		wantState(t, "the end", x, e, State{Tried: 5, Done: true}, api.OK)
		wantLists(t, "its solutions", found, e, nil, api.OK)
		rest, e := Rest(pairs(s.given...), State{Tried: 5})
		wantLists(t, "the rest where nothing is open", rest, e, s.solutions, api.OK)
		rest, e = Rest(pairs(s.given...), State{Done: true})
		wantLists(t, "the rest at the end", rest, e, nil, api.OK)
	}
	x, found, e = Continue(pairs(1, 2, 0, 0), State{}, 9)
	wantState(t, "the empty path is a dead end", x, e, State{Done: true}, api.OK)
	wantLists(t, "its solutions", found, e, nil, api.OK)
	x, found, e = Continue(pairs(0, 0, 0, 0), State{Done: true}, 9)
	wantState(t, "a search at its end", x, e, State{Done: true}, api.OK)
	wantLists(t, "its solutions", found, e, nil, api.OK)
}

func TestSearchesOfManyCells(t *testing.T) { // P6.5: more open cells than those of an exact search
	x, found, e := Continue(free(256), State{}, 258)
	wantState(t, "256 cells", x, e, State{Path: append(numbersUpTo(254), 256, 255), Tried: 258}, api.OK)
	wantLists(t, "solutions of 256 cells", found, e, [][]int{numbersUpTo(256), append(numbersUpTo(254), 256, 255)}, api.OK)
	y := free(17)
	y.System.Lines, y.Sum = [][]int{{0, 16}}, 18
	x, found, e = Continue(y, State{}, api.MaxBudget)
	for at := x; len(found) == 0 && !at.Done; x = at {
		at, found, e = Continue(y, x, api.MaxBudget)
	}
	want(t, "the first solution of 17 cells", []any{found[0], e}, []any{numbersUpTo(17), api.OK})
	_, e = Rest(y, x)
	want(t, "Rest of 17 cells", e, api.ErrLimit)
	_, e = Rest(y, State{Done: true})
	want(t, "Rest of 17 cells at the end", e, api.ErrLimit)
	rest, e := Rest(free(16), State{Path: append(numbersUpTo(10), 13, 11, 15, 14, 16)})
	wantLists(t, "Rest of a path of 16!", rest, e, nil, api.ErrMany)
	full := append([]int{}, numbersUpTo(16)...)
	slices.Reverse(full)
	rest, e = Rest(free(16), State{Path: full[:14]})
	wantLists(t, "Rest of the last two of 16!", rest, e, [][]int{append(slices.Clone(full[:14]), 1, 2), full}, api.OK)
	rest, e = Rest(free(16), State{Path: full})
	wantLists(t, "Rest of the last one of 16!", rest, e, nil, api.OK)
	rest, e = Rest(free(16), State{Path: full[:10]})
	wantLists(t, "Rest with 720 solutions", rest, e, nil, api.ErrMany)
	for _, behind := range [][]int{{4, 6, 2, 3}, {4, 6, 2, 1, 5, 3}} {
		rest, e = Rest(free(16), State{Path: append(slices.Clone(full[:10]), behind...)})
		want(t, "Rest with 256 solutions", []any{len(rest), e}, []any{256, api.OK})
		want(t, "the first of 256 solutions", rest[0], append(slices.Clone(full[:10]), 4, 6, 2, 3, 1, 5))
	}
	rest, e = Rest(free(16), State{Path: append(slices.Clone(full[:10]), 4, 6, 2, 1, 3, 5)})
	wantLists(t, "Rest with 257 solutions", rest, e, nil, api.ErrMany)
}

func TestErrorsOfStates(t *testing.T) { // P6.5
	p := pairs(1, 0, 0, 0)
	for _, x := range []struct {
		t Task
		x State
		e api.Errno
	}{
		{p, State{}, api.OK},
		{p, State{Path: []int{}, Tried: api.MaxNumber}, api.OK},
		{p, State{Path: []int{2}, Tried: 1}, api.OK},
		{p, State{Path: []int{3}}, api.OK},
		{p, State{Path: []int{4, 3, 2}, Tried: 7}, api.OK},
		{p, State{Tried: 7, Done: true}, api.OK},
		{p, State{Path: []int{4, 2, 3, 1}, Tried: -1}, api.ErrShape},
		{p, State{Path: []int{5, 5, 5, 5}}, api.ErrShape},
		{p, State{Path: []int{9}, Tried: -1, Done: true}, api.ErrShape},
		{pairs(1, 4, 2, 3), State{Path: []int{1}}, api.ErrShape},
		{p, State{Path: []int{5}, Tried: -1}, api.ErrRange},
		{p, State{Tried: -1, Done: true}, api.ErrRange},
		{p, State{Tried: api.MaxNumber + 1}, api.ErrRange},
		{p, State{Path: []int{1}, Tried: math.MaxInt}, api.ErrRange},
		{p, State{Path: []int{2, 3, 5}}, api.ErrRange},
		{p, State{Path: []int{0}}, api.ErrRange},
		{p, State{Path: []int{2, -1}}, api.ErrRange},
		{p, State{Path: []int{math.MaxInt, 1}}, api.ErrRange},
		{p, State{Path: []int{math.MinInt}}, api.ErrRange},
		{p, State{Path: []int{2, 5, 1}}, api.ErrRange},
		{p, State{Path: []int{2, 1, 5}}, api.ErrTwice},
		{p, State{Path: []int{1}}, api.ErrTwice},
		{p, State{Path: []int{4, 4}}, api.ErrTwice},
		{p, State{Path: []int{2, 3, 3}}, api.ErrTwice},
		{p, State{Path: []int{2, 3}, Tried: 2}, api.ErrState},
		{p, State{Path: []int{3, 2, 4}}, api.ErrState},
		{pairs(1, 2, 0, 0), State{Path: []int{3}}, api.ErrState},
		{pairs(1, 2, 0, 0), State{}, api.OK},
		{pairs(0, 0, 1, 2), State{Path: []int{3, 4}}, api.ErrState},
	} {
		want(t, "CheckState", []any{x.x, CheckState(x.t, x.x)}, []any{x.x, x.e})
		if x.e == api.OK {
			continue
		}
		state, found, e := Continue(x.t, x.x, -1)
		wantState(t, "Continue", state, e, State{}, x.e)
		wantLists(t, "solutions of Continue", found, e, nil, x.e)
		rest, e := Rest(x.t, x.x)
		wantLists(t, "Rest", rest, e, nil, x.e)
	}
	want(t, "CheckState of 257 numbers", CheckState(free(256), State{Path: numbersUpTo(257)}), api.ErrShape)
	want(t, "CheckState of 256 numbers", CheckState(free(256), State{Path: numbersUpTo(256)}), api.OK)
	_, e := Rest(free(17), State{Path: []int{18}})
	want(t, "Rest of 17 cells with an error", e, api.ErrRange)
}

func TestErrorsOfBudgets(t *testing.T) { // P6.5
	p := pairs(1, 0, 0, 0)
	for _, x := range []struct {
		x      State
		budget int
		e      api.Errno
	}{
		{State{}, -1, api.ErrRange},
		{State{}, math.MinInt, api.ErrRange},
		{State{}, api.MaxBudget + 1, api.ErrRange},
		{State{Tried: api.MaxNumber, Done: true}, math.MaxInt, api.ErrRange},
		{State{Tried: api.MaxNumber}, 1, api.ErrLarge},
		{State{Tried: api.MaxNumber, Done: true}, 1, api.ErrLarge},
		{State{Tried: api.MaxNumber - 999999}, api.MaxBudget, api.ErrLarge},
	} {
		state, found, e := Continue(p, x.x, x.budget)
		wantState(t, "Continue", state, e, State{}, x.e)
		wantLists(t, "solutions of Continue", found, e, nil, x.e)
	}
	state, _, e := Continue(p, State{Tried: api.MaxNumber}, 0)
	wantState(t, "the greatest number tried", state, e, State{Tried: api.MaxNumber}, api.OK)
	state, _, e = Continue(p, State{Tried: api.MaxNumber - api.MaxBudget}, api.MaxBudget)
	wantState(t, "the greatest budget", state, e, State{Tried: api.MaxNumber - api.MaxBudget + 7, Done: true}, api.OK)
}
