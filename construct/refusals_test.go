package construct

import (
	"slices"
	"testing"

	"talisman/api"
)

// wantChecked tells whether a refusal is one of a rule for a kind.
func wantChecked(t *testing.T, what string, s api.Step, kind string, r Refusal, is bool) {
	t.Helper()
	wanted := api.ErrProof
	if is {
		wanted = api.OK
	}
	want(t, "CheckRefusal for "+kind+": "+what, CheckRefusal(s, kind, r), wanted)
}

// refusedSteps returns rules of several kinds, and some in which numbers meet.
func refusedSteps() []api.Step {
	return []api.Step{
		step(1, 0, 0, 0, 0, 0, 0), step(2, 0, 0, 0, 1, 1, 0), step(2, 0, 0, 1, 1, 1, 1), step(3, 0, 0, 0, 0, 0, 0),
		siameseStep(3), step(3, 0, 0, -1, 1, 2, -1), step(4, 0, 0, 1, 0, 0, 1), step(4, 0, 0, 1, 0, 2, 0), step(4, 1, 2, 2, 0, 0, 1), step(5, 0, 0, 1, 2, 2, 1),
	}
}

func TestAllPairsOfNumbers(t *testing.T) { // P3.2
	for _, s := range refusedSteps() {
		for a := -1; a <= s.N*s.N+1; a++ {
			for b := -1; b <= s.N*s.N+1; b++ {
				meet := false
				if 1 <= a && a < b && b <= s.N*s.N {
					i, j := placeOf(s, a)
					k, l := placeOf(s, b)
					meet = i == k && j == l
				}
				for _, kind := range kindNames() {
					wantChecked(t, "two numbers", s, kind, Refusal{Kind: "meet", A: a, B: b}, meet)
				}
			}
		}
	}
}

func TestAllSumsOfLines(t *testing.T) { // P3.2
	for _, s := range refusedSteps() {
		cells, meet := squareOf(s)
		most := s.N * s.N * s.N
		for _, line := range linesNamed("pandiagonal", s.N) {
			for sum := -1; sum <= most; sum++ {
				actual := 0
				for _, cell := range line {
					actual += cells[cell]
				}
				proves := !meet && sum == actual && 2*sum != s.N*(s.N*s.N+1)
				for _, kind := range kindNames() {
					names := slices.ContainsFunc(linesNamed(kind, s.N), func(other []int) bool { return slices.Equal(other, line) })
					wantChecked(t, "a line", s, kind, Refusal{Kind: "sum", Cells: line, Sum: sum}, proves && names)
				}
			}
		}
	}
}

func TestCheckRefusal(t *testing.T) { // P3.2
	siamese, meeting := siameseStep(3), step(4, 0, 0, 1, 0, 2, 0)
	for _, row := range []struct {
		what string
		s    api.Step
		kind string
		r    Refusal
		is   bool
	}{
		{"the first line", siamese, "pandiagonal", Refusal{"sum", 0, 0, []int{1, 5, 6}, 12}, true},
		{"another line", siamese, "pandiagonal", Refusal{"sum", 0, 0, []int{2, 3, 7}, 18}, true},
		{"a line that is not named", siamese, "magic", Refusal{"sum", 0, 0, []int{1, 5, 6}, 12}, false},
		{"cells in another order", siamese, "pandiagonal", Refusal{"sum", 0, 0, []int{6, 5, 1}, 12}, false},
		{"cells that are no line", siamese, "pandiagonal", Refusal{"sum", 0, 0, []int{0, 1, 5}, 16}, false},
		{"a part of a line", siamese, "pandiagonal", Refusal{"sum", 0, 0, []int{1, 5}, 8}, false},
		{"no cells", siamese, "pandiagonal", Refusal{"sum", 0, 0, nil, 0}, false},
		{"cells that are not there", siamese, "pandiagonal", Refusal{"sum", 0, 0, []int{-1, 5, 9}, 12}, false},
		{"a wrong sum", siamese, "pandiagonal", Refusal{"sum", 0, 0, []int{1, 5, 6}, 13}, false},
		{"the constant", siamese, "pandiagonal", Refusal{"sum", 0, 0, []int{0, 1, 2}, 15}, false},
		{"the constant of another line", siamese, "pandiagonal", Refusal{"sum", 0, 0, []int{1, 5, 6}, 15}, false},
		{"a number A", siamese, "pandiagonal", Refusal{"sum", 1, 0, []int{1, 5, 6}, 12}, false},
		{"a number B", siamese, "pandiagonal", Refusal{"sum", 0, 1, []int{1, 5, 6}, 12}, false},
		{"another kind of refusals", siamese, "pandiagonal", Refusal{"sums", 0, 0, []int{1, 5, 6}, 12}, false},
		{"no kind", siamese, "pandiagonal", Refusal{"", 0, 0, []int{1, 5, 6}, 12}, false},
		{"a line as a meeting", siamese, "pandiagonal", Refusal{"meet", 0, 0, []int{1, 5, 6}, 12}, false},
		{"nothing", siamese, "pandiagonal", Refusal{}, false},

		{"the first two numbers", meeting, "square", Refusal{"meet", 3, 5, nil, 0}, true},
		{"two others", meeting, "magic", Refusal{"meet", 1, 7, []int{}, 0}, true},
		{"two that do not meet", meeting, "square", Refusal{"meet", 1, 2, nil, 0}, false},
		{"in another order", meeting, "square", Refusal{"meet", 5, 3, nil, 0}, false},
		{"one number", meeting, "square", Refusal{"meet", 3, 3, nil, 0}, false},
		{"with cells", meeting, "square", Refusal{"meet", 3, 5, []int{8}, 0}, false},
		{"with a sum", meeting, "square", Refusal{"meet", 3, 5, nil, 8}, false},
		{"numbers that are not there", meeting, "square", Refusal{"meet", 1, 17, nil, 0}, false},
		{"numbers below 1", meeting, "square", Refusal{"meet", -15, 1, nil, 0}, false},
		{"as a sum", meeting, "semimagic", Refusal{"sum", 3, 5, nil, 0}, false},
		{"a line where numbers meet", meeting, "semimagic", Refusal{"sum", 0, 0, []int{0, 1, 2, 3}, 1}, false},
		{"a line without numbers", meeting, "semimagic", Refusal{"sum", 0, 0, []int{1, 5, 9, 13}, 0}, false},
	} {
		before := slices.Clone(row.r.Cells)
		wantChecked(t, row.what, row.s, row.kind, row.r, row.is)
		want(t, "the cells afterwards", slices.Equal(row.r.Cells, before), true)
	}
}
