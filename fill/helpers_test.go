package fill

import (
	"math/rand"
	"reflect"
	"slices"
	"testing"

	"talisman/api"
)

// want reports a result that is not the wanted one.
func want(t *testing.T, what string, got, wanted any) {
	t.Helper()
	if !reflect.DeepEqual(got, wanted) {
		t.Errorf("%s: got %v, want %v", what, got, wanted)
	}
}

// wantList is want for a list and its error: nil and empty lists are equal.
func wantList[T any](t *testing.T, what string, got []T, e api.Errno, wanted []T, code api.Errno) {
	t.Helper()
	want(t, "error of "+what, e, code)
	if len(got) > 0 || len(wanted) > 0 {
		want(t, what, got, wanted)
	}
}

// wantLists is wantList for lists of lists, of which some may be empty.
func wantLists(t *testing.T, what string, got [][]int, e api.Errno, wanted [][]int, code api.Errno) {
	t.Helper()
	wantList(t, what, filled(got), e, filled(wanted), code)
}

// filled returns the lists without nil ones.
func filled(lists [][]int) [][]int {
	var all [][]int
	for _, list := range lists {
		all = append(all, append([]int{}, list...))
	}
	return all
}

// wantState is want for a state and its error.
func wantState(t *testing.T, what string, got State, e api.Errno, wanted State, code api.Errno) {
	t.Helper()
	wantList(t, "path of "+what, got.Path, e, wanted.Path, code)
	want(t, what, []any{got.Tried, got.Done}, []any{wanted.Tried, wanted.Done})
}

// taskOf returns a task with some lines.
func taskOf(sum int, given []int, lines ...[]int) Task {
	return Task{System: api.System{Cells: len(given), Lines: lines}, Sum: sum, Given: given}
}

// square returns a task with the lines of magic squares of order 3.
func square(sum int, given ...int) Task {
	return taskOf(sum, given, []int{0, 1, 2}, []int{3, 4, 5}, []int{6, 7, 8}, []int{0, 3, 6}, []int{1, 4, 7}, []int{2, 5, 8}, []int{0, 4, 8}, []int{2, 4, 6})
}

// example returns the task T of the document's examples.
func example() Task {
	return square(15, 2, 7, 6, 0, 0, 0, 0, 0, 0)
}

// pairs returns the task of two lines of two cells, with the sum 5.
func pairs(given ...int) Task {
	return taskOf(5, given, []int{0, 1}, []int{2, 3})
}

// free returns a task without lines, in which nothing is given.
func free(cells int) Task {
	return taskOf(1, make([]int, cells))
}

// numbersUpTo returns the numbers from 1 to n.
func numbersUpTo(n int) []int {
	list := make([]int, n)
	for i := range list {
		list[i] = i + 1
	}
	return list
}

// cellsUpTo returns the first n cells.
func cellsUpTo(n int) []int {
	return append([]int{0}, numbersUpTo(n-1)...)
}

// copied returns a task that shares no memory with another one.
func copied(t Task) Task {
	t.System.Lines = filled(t.System.Lines)
	t.Given = append([]int{}, t.Given...)
	return t
}

// with returns the task with a further number.
func with(t Task, cell, number int) Task {
	t = copied(t)
	t.Given[cell] = number
	return t
}

// unusedOf returns the numbers that are not given, in ascending order.
func unusedOf(t Task) []int {
	var unused []int
	for x := 1; x <= t.System.Cells; x++ {
		if !slices.Contains(t.Given, x) {
			unused = append(unused, x)
		}
	}
	return unused
}

// openOf returns the cells without a number that is given.
func openOf(t Task) []int {
	var open []int
	for cell, x := range t.Given {
		if x == 0 {
			open = append(open, cell)
		}
	}
	return open
}

func lineSum(f, line []int) int {
	sum := 0
	for _, cell := range line {
		sum += f[cell]
	}
	return sum
}

// hasSums reports whether all lines of a filling have the sum of a task.
func hasSums(t Task, f []int) bool {
	for _, line := range t.System.Lines {
		if lineSum(f, line) != t.Sum {
			return false
		}
	}
	return true
}

// solutionsOf tries all numbers in all open cells, in lexicographic order.
func solutionsOf(t Task) [][]int {
	open := openOf(t)
	if len(open) == 0 {
		if hasSums(t, t.Given) {
			return [][]int{slices.Clone(t.Given)}
		}
		return nil
	}
	var all [][]int
	for _, x := range unusedOf(t) {
		all = append(all, solutionsOf(with(t, open[0], x))...)
	}
	return all
}

// someTask returns a task of up to a number of cells. Most of them have a solution:
// all lines have the sum of one line in a filling, of which some numbers are given.
func someTask(random *rand.Rand, most int) Task {
	cells := 1 + random.Intn(most)
	f := random.Perm(cells)
	for i := range f {
		f[i]++
	}
	sum := lineSum(f, someLine(random, cells))
	if random.Intn(6) == 0 {
		sum = max(1, sum+random.Intn(3)-1)
	}
	var lines [][]int
	for range random.Intn(40) {
		line := someLine(random, cells)
		isNew := !slices.ContainsFunc(lines, func(other []int) bool { return slices.Equal(line, other) })
		if isNew && len(lines) < 5 && (lineSum(f, line) == sum || random.Intn(60) == 0) {
			lines = append(lines, line)
		}
	}
	if random.Intn(4) == 0 && cells > 1 {
		i, k := random.Intn(cells), random.Intn(cells)
		f[i], f[k] = f[k], f[i]
	}
	given := make([]int, cells)
	open := 1 + random.Intn(4)
	for i := range given {
		if random.Intn(4) >= open {
			given[i] = f[i]
		}
	}
	return taskOf(sum, given, lines...)
}

// someLine returns a line of some of the cells, at least one.
func someLine(random *rand.Rand, cells int) []int {
	line := random.Perm(cells)[:1+random.Intn(cells)]
	slices.Sort(line)
	return line
}

// someTasks returns so many tasks.
func someTasks(seed int64, number, most int) []Task {
	random := rand.New(rand.NewSource(seed))
	tasks := []Task{free(1), free(3), taskOf(1, []int{1}, []int{0}), taskOf(2, []int{1}, []int{0}), taskOf(2, []int{0}, []int{0}), taskOf(3, []int{1, 3, 0}, []int{0, 1}, []int{0, 2})}
	for len(tasks) < number {
		tasks = append(tasks, someTask(random, most))
	}
	return tasks
}

// badTask is a task with its error.
type badTask struct {
	t Task
	e api.Errno
}

func badTasks() map[string]badTask {
	change := func(change func(t *Task)) Task {
		t := example()
		change(&t)
		return t
	}
	twoHundred := free(256)
	twoHundred.Given[255], twoHundred.Given[0] = 256, 256
	return map[string]badTask{
		"nothing at all":               {Task{}, api.ErrRange},
		"no cells, and no sum":         {change(func(t *Task) { t.System.Cells, t.Sum = 0, 0 }), api.ErrRange},
		"257 cells":                    {free(257), api.ErrRange},
		"129 lines, and no sum":        {change(func(t *Task) { t.System.Lines, t.Sum = make([][]int, 129), 0 }), api.ErrMany},
		"an empty line, and no sum":    {change(func(t *Task) { t.System.Lines[1], t.Sum = nil, 0 }), api.ErrEmpty},
		"a line of another cell":       {change(func(t *Task) { t.System.Lines[7][2], t.Sum = 9, 0 }), api.ErrUnknown},
		"a line of the cell -1":        {change(func(t *Task) { t.System.Lines[0][0] = -1 }), api.ErrUnknown},
		"a line in a wrong order":      {change(func(t *Task) { t.System.Lines[7][0], t.Given = 4, nil }), api.ErrOrder},
		"a line twice":                 {change(func(t *Task) { t.System.Lines[7], t.Sum = []int{3, 4, 5}, -1 }), api.ErrTwice},
		"the sum 0":                    {change(func(t *Task) { t.Sum, t.Given = 0, nil }), api.ErrRange},
		"a sum below 0":                {change(func(t *Task) { t.Sum = -15 }), api.ErrRange},
		"a sum above the greatest":     {change(func(t *Task) { t.Sum = 1000000000 }), api.ErrRange},
		"a number too few":             {change(func(t *Task) { t.Given = []int{2, 2, 10, 0, 0, 0, 0, 0} }), api.ErrShape},
		"a number too many":            {change(func(t *Task) { t.Given = append(t.Given, 0) }), api.ErrShape},
		"no numbers":                   {change(func(t *Task) { t.Given = nil }), api.ErrShape},
		"a number above N":             {change(func(t *Task) { t.Given[3] = 10 }), api.ErrRange},
		"a number below 0":             {change(func(t *Task) { t.Given[8] = -1 }), api.ErrRange},
		"the greatest number":          {change(func(t *Task) { t.Given[8] = 1<<63 - 1 }), api.ErrRange},
		"the least number":             {change(func(t *Task) { t.Given[8] = -1 << 63 }), api.ErrRange},
		"a number twice":               {change(func(t *Task) { t.Given[8] = 2 }), api.ErrTwice},
		"a number twice, then above N": {change(func(t *Task) { t.Given[3], t.Given[4] = 7, 10 }), api.ErrTwice},
		"a number above N, then twice": {change(func(t *Task) { t.Given[3], t.Given[4] = 10, 7 }), api.ErrRange},
		"the number 256 twice":         {twoHundred, api.ErrTwice},
	}
}
