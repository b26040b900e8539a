package construct

import (
	"slices"

	"talisman/api"
)

// Refusal is a proof that a rule of steps fails: two numbers that meet, or a line with its sum.
type Refusal struct {
	Kind  string
	A     int
	B     int
	Cells []int
	Sum   int
}

// Refuse returns the first proof that the square of a rule of steps is not of a kind.
func Refuse(s api.Step, kind string) (Refusal, api.Errno) {
	r, k, e := ruleAndKind(s, kind)
	if e != api.OK {
		return Refusal{}, e
	}
	cells, earlier, last := r.square()
	if last > 0 {
		return Refusal{Kind: "meet", A: earlier, B: last}, api.OK
	}
	for line := range linesOf(r.N, k.lines(r.N)) {
		if sum := sumOf(cells, line); sum != constantOf(r.N) {
			return Refusal{Kind: "sum", Cells: line, Sum: sum}, api.OK
		}
	}
	return Refusal{}, api.ErrNone
}

// CheckRefusal returns OK for a proof that the square of a rule of steps is not of a kind.
func CheckRefusal(s api.Step, kind string, r Refusal) api.Errno {
	of, k, e := ruleAndKind(s, kind)
	if e != api.OK {
		return e
	}
	if r.meetIn(of) || r.failsIn(of, k) {
		return api.OK
	}
	return api.ErrProof
}

// meetIn reports whether the refusal has two numbers of a rule that meet.
func (r Refusal) meetIn(of rule) bool {
	return r.Kind == "meet" && len(r.Cells) == 0 && r.Sum == 0 &&
		of.hasNumbers(r.A, r.B) && r.A < r.B && of.cell(r.A) == of.cell(r.B)
}

// failsIn reports whether the refusal has a line that a kind names, with its
// sum, which is not the constant.
func (r Refusal) failsIn(of rule, k stepKind) bool {
	cells, _, last := of.square()
	if r.Kind != "sum" || r.A != 0 || r.B != 0 || last > 0 || r.Sum == constantOf(of.N) {
		return false
	}
	for line := range linesOf(of.N, k.lines(of.N)) {
		if slices.Equal(line, r.Cells) {
			return sumOf(cells, line) == r.Sum
		}
	}
	return false
}
