package fill

import (
	"slices"

	"talisman/api"
)

// State is the state of a search: the numbers of the first open cells, how many numbers have been tried, and whether the search is at its end.
type State struct {
	Path  []int
	Tried int
	Done  bool
}

// Begin returns the state at the beginning of a search.
func Begin(t Task) (State, api.Errno) {
	return State{}, CheckTask(t)
}

// CheckState returns the first error of a state of a search, or OK.
func CheckState(t Task, x State) api.Errno {
	_, e := trailOf(t, x)
	return e
}

// Continue goes on with a search, and returns the solutions that it finds.
func Continue(t Task, x State, budget int) (State, [][]int, api.Errno) {
	p, e := trailOf(t, x)
	if e = first(e, within(0, api.MaxBudget, budget)); e != api.OK {
		return State{}, nil, e
	}
	if x.Tried > api.MaxNumber-budget {
		return State{}, nil, api.ErrLarge
	}
	if x.Done || budget == 0 {
		return State{Path: p.path(), Tried: x.Tried, Done: x.Done}, nil, api.OK
	}
	var found [][]int
	if len(p.cells) == 0 && p.isSolution() {
		found = append(found, p.filling())
	}
	state := State{Tried: x.Tried}
search:
	for range budget {
		above := 0
		for drops := p.isDeadEnd(); drops; drops = p.board.unused.after(above) == 0 {
			if p.length == 0 {
				state.Done = true
				break search
			}
			above = p.drop()
		}
		p.push(p.board.unused.after(above))
		state.Tried++
		if p.isSolution() {
			found = append(found, p.filling())
		}
	}
	state.Path = p.path()
	return state, found, api.OK
}

// Rest returns all solutions that a search has not found yet.
func Rest(t Task, x State) ([][]int, api.Errno) {
	if e := CheckState(t, x); e != api.OK {
		return nil, e
	}
	b, e := searchable(t)
	if e != api.OK || x.Done {
		return nil, e
	}
	floor := slices.Clone(x.Path)
	if last := len(floor) - 1; last >= 0 && len(floor) == b.unused.size() {
		floor[last]++ // a path with all numbers has been looked at when it was tried
	}
	found := firstOf(b.inOrder(floor), api.MaxList+1)
	if len(found) > api.MaxList {
		return nil, api.ErrMany
	}
	return found, api.OK
}

// trail is a search with the numbers of its path on a board.
type trail struct {
	board  *board
	cells  []int // the open cells of the task
	length int   // of the path
}

// trailOf returns the trail of a state, or the first error of the task and the
// state.
func trailOf(t Task, x State) (*trail, api.Errno) {
	b, e := boardOf(t)
	if e != api.OK {
		return nil, e
	}
	p := &trail{board: b, cells: b.openCells()}
	if len(x.Path) > len(p.cells) || x.Done && len(x.Path) > 0 {
		return nil, api.ErrShape
	}
	if e := within(0, api.MaxNumber, x.Tried); e != api.OK {
		return nil, e
	}
	unused := b.unused
	for _, number := range x.Path {
		if e := draw(&unused, number, len(b.numbers)); e != api.OK {
			return nil, e
		}
	}
	for _, number := range x.Path {
		if p.isDeadEnd() {
			return nil, api.ErrState
		}
		p.push(number)
	}
	return p, api.OK
}

// push puts a number behind the path.
func (p *trail) push(number int) {
	p.board.put(p.cells[p.length], number)
	p.length++
}

// drop takes the last number of the path away, and returns it.
func (p *trail) drop() int {
	p.length--
	return p.board.take(p.cells[p.length])
}

func (p *trail) isFull() bool {
	return p.length == len(p.cells)
}

func (p *trail) isDeadEnd() bool {
	return p.isFull() || p.board.wrong > 0
}

func (p *trail) isSolution() bool {
	return p.isFull() && p.board.wrong == 0
}

func (p *trail) path() []int {
	var path []int
	for _, cell := range p.cells[:p.length] {
		path = append(path, p.board.numbers[cell])
	}
	return path
}

func (p *trail) filling() []int {
	return slices.Clone(p.board.numbers)
}
