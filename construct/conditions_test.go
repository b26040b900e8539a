package construct

import (
	"math/rand"
	"testing"

	"talisman/api"
)

// firstRefusal tries all pairs of numbers, and then all lines of a kind; its
// Kind is empty if the rule has the kind.
func firstRefusal(s api.Step, kind string) Refusal {
	cells, meet := squareOf(s)
	for b := 1; meet && b <= s.N*s.N; b++ {
		for a := 1; a < b; a++ {
			i, j := placeOf(s, a)
			k, l := placeOf(s, b)
			if i == k && j == l {
				return Refusal{Kind: "meet", A: a, B: b}
			}
		}
	}
	for _, line := range linesNamed(kind, s.N) {
		sum := 0
		for _, cell := range line {
			sum += cells[cell]
		}
		if 2*sum != s.N*(s.N*s.N+1) {
			return Refusal{Kind: "sum", Cells: line, Sum: sum}
		}
	}
	return Refusal{}
}

// wantAnswers compares what is said of a rule with its square.
func wantAnswers(t *testing.T, s api.Step) {
	t.Helper()
	for _, kind := range kindNames() {
		wanted := firstRefusal(s, kind)
		admitted, e := Admits(s, kind)
		if admitted != (wanted.Kind == "") || e != api.OK {
			t.Errorf("Admits of %v, %s: got %v, error %v", s, kind, admitted, e)
		}
		r, e := Refuse(s, kind)
		if admitted {
			want(t, "no refusal", []any{r, e}, []any{Refusal{}, api.ErrNone})
			continue
		}
		want(t, "error of Refuse", e, api.OK)
		wantRefusal(t, "Refuse", r, wanted)
		want(t, "CheckRefusal of the first one", CheckRefusal(s, kind, r), api.OK)
	}
}

// allSteps calls a function for all rules of an order with numbers less than it.
func allSteps(n int, visit func(s api.Step)) {
	for code := range n * n * n * n * n * n {
		var digits [6]int
		for i := range digits {
			digits[5-i] = code % n
			code /= n
		}
		visit(step(n, digits[4], digits[5], digits[0], digits[1], digits[2], digits[3]))
	}
}

func TestConditionsOfSmallOrders(t *testing.T) { // P3.2, P3.8
	for n := 1; n <= 5; n++ {
		allSteps(n, func(s api.Step) { wantAnswers(t, s) })
	}
}

func TestConditionsOfGreatOrders(t *testing.T) { // P3.2, P3.8
	random := rand.New(rand.NewSource(3))
	for range 2000 {
		wantAnswers(t, someStep(random))
	}
	found := map[string]int{}
	for _, n := range []int{7, 9, 15} { // orders with many magic rules, of several divisors
		for range 2500 {
			s := step(n, random.Intn(n), random.Intn(n), random.Intn(n), random.Intn(n), random.Intn(n), random.Intn(n))
			if random.Intn(2) == 0 { // a main diagonal that is balanced more often
				s.Start = [2]int{0, (n - 1) / 2}
			}
			wantAnswers(t, s)
			for _, kind := range kindNames() {
				if is, _ := Admits(s, kind); is {
					found[kind]++
				}
			}
		}
	}
	want(t, "some are semimagic alone", found["semimagic"] > found["magic"], true)
	want(t, "some are magic alone", found["magic"] > found["pandiagonal"], true)
	want(t, "some are pandiagonal", found["pandiagonal"] > 0, true)
}

func TestExamplesOfConditions(t *testing.T) { // P3.2
	plain, meeting := step(4, 0, 0, 1, 0, 0, 1), step(4, 0, 0, 1, 0, 2, 0)
	for _, row := range []struct {
		what string
		s    api.Step
		kind string
		r    Refusal // none if its Kind is empty
	}{
		{"a siamese square", siameseStep(3), "square", Refusal{}},
		{"a siamese square", siameseStep(3), "semimagic", Refusal{}},
		{"a siamese square", siameseStep(3), "magic", Refusal{}},
		{"a siamese square", siameseStep(3), "pandiagonal", Refusal{"sum", 0, 0, []int{1, 5, 6}, 12}},
		{"a siamese square elsewhere", step(3, 0, 0, -1, 1, 2, -1), "semimagic", Refusal{}},
		{"a siamese square elsewhere", step(3, 0, 0, -1, 1, 2, -1), "magic", Refusal{"sum", 0, 0, []int{0, 4, 8}, 12}},
		{"columns in their order", plain, "square", Refusal{}},
		{"columns in their order", plain, "semimagic", Refusal{"sum", 0, 0, []int{0, 1, 2, 3}, 28}},
		{"numbers that meet", meeting, "square", Refusal{"meet", 3, 5, nil, 0}},
		{"numbers that meet", meeting, "semimagic", Refusal{"meet", 3, 5, nil, 0}},
		{"numbers that meet", meeting, "magic", Refusal{"meet", 3, 5, nil, 0}},
		{"numbers that meet", meeting, "pandiagonal", Refusal{"meet", 3, 5, nil, 0}},
		{"no steps", step(5, 1, 1, 0, 0, 0, 0), "magic", Refusal{"meet", 1, 2, nil, 0}},
		{"the order 1", step(1, 0, 0, 0, 0, 0, 0), "pandiagonal", Refusal{}},
		{"a pandiagonal square", step(5, 0, 0, 1, 2, 2, 1), "pandiagonal", Refusal{}},
	} {
		is, e := Admits(row.s, row.kind)
		want(t, "Admits: "+row.what+", "+row.kind, []any{is, e}, []any{row.r.Kind == "", api.OK})
		r, e := Refuse(row.s, row.kind)
		wantRefusal(t, "Refuse: "+row.what+", "+row.kind, r, row.r)
		want(t, "error of Refuse: "+row.what+", "+row.kind, e == api.ErrNone, row.r.Kind == "")
	}
}

func TestErrorsOfConditions(t *testing.T) { // P3.2
	wantErrors := func(what string, s api.Step, kind string, wanted api.Errno) {
		t.Helper()
		is, e := Admits(s, kind)
		want(t, "Admits: "+what, []any{is, e}, []any{false, wanted})
		r, e := Refuse(s, kind)
		want(t, "Refuse: "+what, []any{r, e}, []any{Refusal{}, wanted})
		want(t, "CheckRefusal: "+what, CheckRefusal(s, kind, Refusal{Kind: "meet", A: 1, B: 1}), wanted)
	}
	for what, s := range badSteps() {
		wantErrors(what, s, "magic", api.ErrRange)
		wantErrors(what+", and no kind", s, "associative", api.ErrRange)
	}
	for _, kind := range []string{"", "associative", "Magic", "magic ", "sum", "meet", "most-perfect"} {
		wantErrors("no kind "+kind, step(4, 0, 0, 1, 0, 2, 0), kind, api.ErrKind)
		wantErrors("no kind "+kind, step(5, 0, 0, 1, 2, 2, 1), kind, api.ErrKind)
	}
}

func TestRules(t *testing.T) { // P3.2
	total := map[string]int{}
	for n := 1; n <= 5; n++ {
		for _, kind := range kindNames() {
			var wanted []api.Step
			allSteps(n, func(s api.Step) { // in the order of the last four numbers
				if s.Start == [2]int{} && firstRefusal(s, kind).Kind == "" {
					wanted = append(wanted, s)
				}
			})
			total[kind] += len(wanted)
			rules, e := Rules(n, kind)
			if len(wanted) > api.MaxList {
				wanted = nil
				want(t, "error of Rules of too many", e, api.ErrMany)
			} else {
				want(t, "error of Rules", e, api.OK)
			}
			if len(rules) > 0 || len(wanted) > 0 {
				want(t, "Rules of "+kind, rules, wanted)
			}
		}
	}
	want(t, "numbers of rules", total, map[string]int{"square": 1 + 6 + 48 + 96 + 480, "semimagic": 1 + 8 + 192, "magic": 1 + 48, "pandiagonal": 1 + 32})
}

func TestErrorsOfRules(t *testing.T) { // P3.2
	for _, row := range []struct {
		n    int
		kind string
		e    api.Errno
	}{
		{5, "square", api.ErrMany}, {6, "square", api.ErrLimit}, {6, "pandiagonal", api.ErrLimit}, {16, "magic", api.ErrLimit},
		{0, "magic", api.ErrRange}, {17, "magic", api.ErrRange}, {-3, "magic", api.ErrRange}, {17, "none", api.ErrRange}, {0, "", api.ErrRange},
		{6, "none", api.ErrKind}, {5, "", api.ErrKind}, {16, "Square", api.ErrKind},
	} {
		rules, e := Rules(row.n, row.kind)
		want(t, "Rules of "+row.kind, []any{len(rules), e}, []any{0, row.e})
	}
	rules, e := Rules(2, "semimagic")
	want(t, "no rules", []any{len(rules), e}, []any{0, api.OK})
}
