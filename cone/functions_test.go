package cone

import (
	"math/big"
	"math/rand"
	"slices"
	"strconv"
	"strings"
	"testing"

	"talisman/api"
)

// wantQuasi is want for a quasi-polynomial and its error.
func wantQuasi(t *testing.T, what string, got api.Quasi, e api.Errno, wanted api.Quasi, code api.Errno) {
	t.Helper()
	want(t, "error of "+what, e, code)
	if len(got) > 0 || len(wanted) > 0 {
		want(t, what, got, wanted)
	}
}

// wantRat is want for a rational number and its error.
func wantRat(t *testing.T, what string, got api.Rat, e api.Errno, wanted api.Rat, code api.Errno) {
	t.Helper()
	want(t, what, []any{got, e}, []any{wanted, code})
}

func TestQuasiExamples(t *testing.T) { // P8.3
	for _, row := range []struct {
		what           string
		s              api.System
		period, degree int
		q              api.Quasi
	}{
		{"order 2", two(), 1, 1, api.Quasi{{"1", "1"}}},
		{"order 2, of a higher degree", two(), 1, 3, api.Quasi{{"1", "1", "0", "0"}}},
		{"order 2, with a period", two(), 3, 1, api.Quasi{{"1", "1"}, {"1", "1"}, {"1", "1"}}},
		{"order 2, of a lower degree", two(), 2, 0, api.Quasi{{"1"}, {"2"}}},
		{"magic squares", magic(), 3, 2, api.Quasi{{"1", "2/3", "2/9"}, {"0", "0", "0"}, {"0", "0", "0"}}},
		{"magic squares, as if there were no period", magic(), 1, 1, api.Quasi{{"1", "-1"}}},
		{"order 3", three(), 1, 4, api.Quasi{{"1", "9/4", "15/8", "3/4", "1/8"}}},
		{"even sums", system(3, []int{0, 1}, []int{0, 2}, []int{1, 2}), 2, 0, api.Quasi{{"1"}, {"0"}}},
		{"a period of 12", two(), 12, 1, slices.Repeat(api.Quasi{{"1", "1"}}, 12)},
		{"a degree of 12", system(1, []int{0}), 1, 12, api.Quasi{append([]api.Rat{"1"}, slices.Repeat([]api.Rat{"0"}, 12)...)}},
	} {
		q, e := Quasi(row.s, row.period, row.degree)
		wantQuasi(t, "Quasi of "+row.what, q, e, row.q, api.OK)
	}
	q, e := Quasi(system(12, upTo(12)), 1, 11)
	want(t, "Quasi of a line of 12 cells", []any{len(q), len(q[0]), q[0][0], q[0][11], e}, []any{1, 12, api.Rat("1"), api.Rat("1/39916800"), api.OK})
}

// exactly returns a number of the package big.
func exactly(x api.Rat) *big.Rat {
	r, _ := new(big.Rat).SetString(string(x))
	return r
}

// valueOf returns the value of a quasi-polynomial by its powers.
func valueOf(q api.Quasi, t int) *big.Rat {
	sum, power := new(big.Rat), big.NewRat(1, 1)
	at := t % len(q)
	if at < 0 {
		at += len(q)
	}
	for _, x := range q[at] {
		sum.Add(sum, new(big.Rat).Mul(exactly(x), power))
		power.Mul(power, new(big.Rat).SetInt64(int64(t)))
	}
	return sum
}

func textOf(r *big.Rat) api.Rat {
	if r.IsInt() {
		return api.Rat(r.Num().String())
	}
	return api.Rat(r.String())
}

func TestQuasi(t *testing.T) { // P8.3: it has the numbers that it is made of, and as many coefficients
	random := rand.New(rand.NewSource(96))
	differs := 0
	for _, s := range someSystems(97, 60, 6) {
		period := 1 + random.Intn(12)
		degree := random.Intn(min(12, 25/period-1) + 1)
		q, e := Quasi(s, period, degree)
		want(t, "the period", []any{len(q), e}, []any{period, api.OK})
		for at := range 25 {
			want(t, "the number of coefficients", len(q[at%period]), degree+1)
			n, e := Count(s, at)
			want(t, "error of Count", e, api.OK)
			v, e := Value(q, at)
			wantRat(t, "Value", v, e, textOf(valueOf(q, at)), api.OK)
			if at < period*(degree+1) {
				want(t, "it counts", v, api.Rat(strconv.Itoa(n)))
			} else if v != api.Rat(strconv.Itoa(n)) {
				differs++
			}
		}
	}
	want(t, "it differs elsewhere", differs > 50, true)
}

func TestQuasiErrors(t *testing.T) { // P8.3
	for name, b := range badSystems() {
		q, e := Quasi(b.s, 0, -1)
		wantQuasi(t, "Quasi of "+name, q, e, nil, b.e)
	}
	for _, row := range []struct {
		period, degree int
		e              api.Errno
	}{
		{0, 1, api.ErrRange}, {-1, 1, api.ErrRange}, {13, 0, api.ErrRange}, {1, -1, api.ErrRange}, {1, 13, api.ErrRange}, {12, 13, api.ErrRange}, {13, 12, api.ErrRange},
		{-1 << 63, 1 << 62, api.ErrRange}, {1, 1<<63 - 1, api.ErrRange}, {1<<63 - 1, 1, api.ErrRange}, {0, 12, api.ErrRange}, {0, 1<<63 - 1, api.ErrRange},
		{6, 4, api.ErrLimit}, {5, 5, api.ErrLimit}, {2, 12, api.ErrLimit}, {12, 12, api.ErrLimit}, {12, 2, api.ErrLimit}, {9, 2, api.ErrLimit},
		{5, 4, api.OK}, {1, 12, api.OK}, {12, 1, api.OK}, {8, 2, api.OK}, {12, 0, api.OK}, {2, 11, api.OK},
	} {
		q, e := Quasi(two(), row.period, row.degree)
		want(t, "error of Quasi", e, row.e)
		want(t, "there is a result", len(q) > 0, row.e == api.OK)
	}
}

func TestValueExamples(t *testing.T) { // P8.3
	halves := api.Quasi{{"1", "1/2"}, {"1/2", "1/2"}}
	for _, row := range []struct {
		q api.Quasi
		t int
		v api.Rat
	}{
		{halves, 5, "3"}, {halves, -1, "0"}, {halves, 0, "1"}, {halves, -2, "0"}, {halves, -3, "-1"}, {halves, 999999999, "500000000"}, {halves, -999999999, "-499999999"},
		{api.Quasi{{}}, 5, "0"}, {api.Quasi{{}, {"7"}}, -999999999, "7"}, {api.Quasi{{}, {"7"}, nil}, -1, "0"}, {api.Quasi{{"0", "0"}}, 3, "0"}, {api.Quasi{{"5/3"}}, 12, "5/3"},
		{api.Quasi{{"1/2", "1/3", "1/5"}}, 2, "59/30"}, {api.Quasi{{"0", "0", "0", "1"}}, -999999999, "-999999997000000002999999999"},
		{slices.Repeat(api.Quasi{{"1"}}, 256), 999, "1"}, {api.Quasi{slices.Repeat([]api.Rat{"1"}, 256)}, -1, "0"}, {api.Quasi{slices.Repeat([]api.Rat{"1"}, 256)}, 1, "256"},
	} {
		v, e := Value(row.q, row.t)
		wantRat(t, "Value", v, e, row.v, api.OK)
	}
}

func TestValues(t *testing.T) { // P8.3: compared with the package big
	random := rand.New(rand.NewSource(98))
	for range 200 {
		var q api.Quasi
		for range 1 + random.Intn(4) {
			var polynomial []api.Rat
			for range random.Intn(6) {
				polynomial = append(polynomial, textOf(big.NewRat(int64(random.Intn(199)-99), int64(1+random.Intn(30)))))
			}
			q = append(q, polynomial)
		}
		at := random.Intn(2*api.MaxNumber+1) - api.MaxNumber
		if random.Intn(2) == 0 {
			at = random.Intn(21) - 10
		}
		v, e := Value(q, at)
		wantRat(t, "Value", v, e, textOf(valueOf(q, at)), api.OK)
	}
}

func TestLargeValues(t *testing.T) { // P8.3: numbers on the way have no limit, results have
	nines := api.Rat(strings.Repeat("9", 600))
	tens := "1" + strings.Repeat("0", 590)
	for _, row := range []struct {
		q api.Quasi
		t int
		v api.Rat
		e api.Errno
	}{
		{api.Quasi{{nines}}, 5, nines, api.OK},
		{api.Quasi{{"1", nines}}, 1, "", api.ErrLarge},
		{api.Quasi{{"1", nines}}, -1, "-" + nines[:599] + "8", api.OK},
		{api.Quasi{{"1", "1/" + nines}}, 1, "", api.ErrLarge},
		{api.Quasi{{"-1/3", "1/" + nines}}, 3, "", api.OK},
		{api.Quasi{{"0", "0", nines}}, 1000, "", api.ErrLarge},
		{api.Quasi{{"3", "-" + api.Rat(tens) + "00000000", api.Rat(tens)}}, 100000000, "3", api.OK},
		{api.Quasi{{"3", "-" + api.Rat(tens) + "00000000", api.Rat(tens)}}, 99999999, "", api.OK},
		{api.Quasi{{nines, "-" + nines, nines, "-" + nines}}, 1, "0", api.OK},
		{api.Quasi{append(slices.Repeat([]api.Rat{"0"}, 66), "1")}, 999999999, "", api.OK},
		{api.Quasi{append(slices.Repeat([]api.Rat{"0"}, 67), "1")}, 999999999, "", api.ErrLarge},
		{api.Quasi{append(slices.Repeat([]api.Rat{"0"}, 255), "1")}, 999999999, "", api.ErrLarge},
	} {
		v, e := Value(row.q, row.t)
		if row.v == "" && row.e == api.OK {
			row.v = textOf(valueOf(row.q, row.t))
		}
		wantRat(t, "Value", v, e, row.v, row.e)
	}
	// p and q have no common divisor, and each a 600 digits: the sum with p q
	// as its denominator is too long, but not the one that follows from it.
	p, q := "1"+strings.Repeat("0", 598)+"1", "1"+strings.Repeat("0", 598)+"3"
	v, e := Value(api.Quasi{{api.Rat("-1/" + q), api.Rat("1/" + p), api.Rat("1/" + q)}}, 1)
	wantRat(t, "a denominator that goes", v, e, api.Rat("1/"+p), api.OK)
	v, e = Value(api.Quasi{{"0", api.Rat("1/" + p), api.Rat("1/" + q)}}, 1)
	wantRat(t, "a denominator that stays", v, e, "", api.ErrLarge)
}

// badQuasi is a quasi-polynomial with its error.
type badQuasi struct {
	q api.Quasi
	e api.Errno
}

// badQuasis returns quasi-polynomials with an error, which they have before another one.
func badQuasis() map[string]badQuasi {
	long := api.Rat(strings.Repeat("7", 601))
	return map[string]badQuasi{
		"nothing at all":                 {nil, api.ErrEmpty},
		"no polynomials":                 {api.Quasi{}, api.ErrEmpty},
		"257 polynomials":                {slices.Repeat(api.Quasi{{"x"}}, 257), api.ErrMany},
		"257 coefficients":               {api.Quasi{{"1"}, slices.Repeat([]api.Rat{"x"}, 257)}, api.ErrMany},
		"257 coefficients, too late":     {api.Quasi{{"1", "2/2"}, slices.Repeat([]api.Rat{"1"}, 257)}, api.ErrForm},
		"no number":                      {api.Quasi{{}, {"1", ""}}, api.ErrForm},
		"not in lowest terms":            {api.Quasi{{"2/2"}}, api.ErrForm},
		"a number with too many digits":  {api.Quasi{{"1"}, {"2", long, "x"}}, api.ErrLarge},
		"a bad number before a long one": {api.Quasi{{"1"}, {"2", "-0", long}}, api.ErrForm},
		"a bad number that is not used":  {api.Quasi{{"1"}, {"1"}, {"1"}, {"1"}, {"1"}, {"1"}, {"-0"}}, api.ErrForm},
	}
}

func TestValueErrors(t *testing.T) { // P8.3
	for name, b := range badQuasis() {
		for _, at := range []int{5, 1000000000} {
			v, e := Value(b.q, at)
			wantRat(t, "Value of "+name, v, e, "", b.e)
		}
	}
	for _, at := range []int{1000000000, -1000000000, 1<<63 - 1, -1 << 63} {
		v, e := Value(api.Quasi{{"1", api.Rat(strings.Repeat("9", 600))}}, at)
		wantRat(t, "Value of an integer out of range", v, e, "", api.ErrRange)
	}
}

func TestAgrees(t *testing.T) { // P8.3
	nines := api.Rat(strings.Repeat("9", 600))
	for _, row := range []struct {
		what    string
		s       api.System
		q       api.Quasi
		upto, n int
		e       api.Errno
	}{
		{"all sums", two(), api.Quasi{{"1", "1"}}, 24, 0, api.ErrNone},
		{"a sum of 0", two(), api.Quasi{{"1", "2"}}, 0, 0, api.ErrNone},
		{"a difference at 1", two(), api.Quasi{{"1", "2"}}, 5, 1, api.OK},
		{"a difference at 0", two(), api.Quasi{{"0", "1"}}, 5, 0, api.OK},
		{"a difference at 24", two(), append(slices.Repeat(api.Quasi{{"1", "1"}}, 24), []api.Rat{"24"}), 24, 24, api.OK},
		{"a difference too far", two(), append(slices.Repeat(api.Quasi{{"1", "1"}}, 24), []api.Rat{"24"}), 23, 0, api.ErrNone},
		{"magic squares", magic(), api.Quasi{{"1", "2/3", "2/9"}, {}, {"0"}}, 24, 0, api.ErrNone},
		{"magic squares without the period", magic(), api.Quasi{{"1", "2/3", "2/9"}}, 24, 1, api.OK},
		{"a value that is too large", two(), api.Quasi{{"1", nines}, {"2", nines, nines}}, 24, 1, api.OK},
		{"no integer", two(), api.Quasi{{"1", "1"}, {"1/2", "1"}}, 24, 1, api.OK},
		{"no polynomial", two(), api.Quasi{{}}, 24, 0, api.OK},
	} {
		n, e := Agrees(row.s, row.q, row.upto)
		wantNumber(t, "Agrees with "+row.what, n, e, row.n, row.e)
	}
	for name, b := range badSystems() {
		n, e := Agrees(b.s, nil, -1)
		wantNumber(t, "Agrees of "+name, n, e, 0, b.e)
	}
	for name, b := range badQuasis() {
		n, e := Agrees(two(), b.q, 25)
		wantNumber(t, "Agrees of "+name, n, e, 0, b.e)
	}
	for upto, code := range map[int]api.Errno{-1: api.ErrRange, -1 << 63: api.ErrRange, 25: api.ErrLimit, 1<<63 - 1: api.ErrLimit} {
		n, e := Agrees(two(), api.Quasi{{"1"}}, upto)
		wantNumber(t, "Agrees up to a bad sum", n, e, 0, code)
	}
}

func TestNumeratorExamples(t *testing.T) { // P8.3
	for _, row := range []struct {
		what      string
		s         api.System
		sizes     []int
		upto      int
		numerator []int
	}{
		{"order 2", two(), []int{1, 1}, 24, append([]int{1}, repeat(0, 24)...)},
		{"order 2 without sizes", two(), nil, 2, []int{1, 2, 3}},
		{"order 2 and one size", two(), []int{1}, 3, []int{1, 1, 1, 1}},
		{"order 2 and too many", two(), []int{1, 1, 1}, 3, []int{1, -1, 0, 0}},
		{"order 2 and different sizes", two(), []int{2, 1}, 4, []int{1, 1, 0, 0, 0}},
		{"order 3", three(), repeat(1, 5), 5, []int{1, 1, 1, 0, 0, 0}},
		{"magic squares", magic(), []int{3, 3, 3}, 9, []int{1, 0, 0, 2, 0, 0, 1, 0, 0, 0}},
		{"a sum of 0", three(), []int{1, 24}, 0, []int{1}},
		{"a size that is too great", two(), []int{24}, 3, []int{1, 2, 3, 4}},
		{"the greatest size", system(1, []int{0}), []int{24}, 24, append(repeat(1, 24), 0)},
		{"16 sizes", system(1, []int{0}), repeat(1, 16), 3, []int{1, -15, 105, -455}},
	} {
		l, e := Numerator(row.s, row.sizes, row.upto)
		wantList(t, "Numerator of "+row.what, l, e, row.numerator, api.OK)
	}
}

func TestNumeratorErrors(t *testing.T) { // P8.3
	for name, b := range badSystems() {
		l, e := Numerator(b.s, []int{0}, -1)
		wantList(t, "Numerator of "+name, l, e, nil, b.e)
	}
	for _, row := range []struct {
		sizes []int
		upto  int
		e     api.Errno
	}{
		{repeat(0, 17), -1, api.ErrMany}, {[]int{1, 0}, -1, api.ErrRange}, {[]int{25, 1}, 25, api.ErrRange}, {[]int{-1 << 63}, 3, api.ErrRange}, {[]int{1<<63 - 1}, 3, api.ErrRange},
		{nil, -1, api.ErrRange}, {[]int{1}, 25, api.ErrLimit}, {nil, 1<<63 - 1, api.ErrLimit}, {nil, -1 << 63, api.ErrRange}, {repeat(24, 16), 24, api.OK},
	} {
		l, e := Numerator(two(), row.sizes, row.upto)
		want(t, "error of Numerator", e, row.e)
		want(t, "there is a result", len(l) > 0, row.e == api.OK)
	}
}

// coefficientOf multiplies series with the package big.
func coefficientOf(numerator, sizes []int, t int) *big.Int {
	series := make([]*big.Int, t+1)
	for k := range series {
		series[k] = new(big.Int)
		if k < len(numerator) {
			series[k] = big.NewInt(int64(numerator[k]))
		}
	}
	for _, size := range sizes {
		for k := size; k <= t; k++ {
			series[k] = new(big.Int).Add(series[k], series[k-size])
		}
	}
	return series[t]
}

func TestCoefficients(t *testing.T) { // P8.3
	for _, row := range []struct {
		numerator, sizes []int
		t, n             int
	}{
		{[]int{1, 1, 1}, repeat(1, 5), 3, 55}, {[]int{1}, []int{2, 3}, 6, 2}, {[]int{1, 2}, nil, 1, 2}, {[]int{1, 2}, nil, 2, 0}, {nil, []int{1}, 3, 0}, {nil, nil, 0, 0},
		{[]int{7, 100}, []int{1}, 0, 7}, {[]int{1}, []int{1, 1}, 24, 25}, {[]int{1}, []int{24}, 24, 1}, {[]int{1}, []int{24}, 23, 0}, {[]int{-5}, []int{1}, 24, -5},
		{[]int{1}, repeat(1, 16), 24, 25140840660}, {repeat(1, 256), []int{1}, 24, 25}, {append(repeat(0, 24), 9), nil, 24, 9}, {append(repeat(0, 25), 9), nil, 24, 0},
	} {
		n, e := Coefficient(row.numerator, row.sizes, row.t)
		wantNumber(t, "Coefficient", n, e, row.n, api.OK)
	}
	random := rand.New(rand.NewSource(99))
	large, small := 0, 0
	for range 3000 {
		numerator := make([]int, random.Intn(30))
		for i := range numerator {
			numerator[i] = random.Intn(2*api.MaxNumber+1) - api.MaxNumber
		}
		sizes := make([]int, random.Intn(17))
		for i := range sizes {
			sizes[i] = 1 + random.Intn(2)*random.Intn(3)
		}
		at := random.Intn(25)
		if random.Intn(2) == 0 {
			sizes, at = repeat(1, 14+random.Intn(3)), 22+random.Intn(3)
		}
		wanted := coefficientOf(numerator, sizes, at)
		n, e := Coefficient(numerator, sizes, at)
		if wanted.IsInt64() {
			wantNumber(t, "Coefficient", n, e, int(wanted.Int64()), api.OK)
			small++
		} else {
			wantNumber(t, "Coefficient", n, e, 0, api.ErrLarge)
			large++
		}
	}
	want(t, "both happened", large > 10 && small > 1000, true)
}

func TestLargestCoefficients(t *testing.T) { // P8.3: the greatest machine integer and the least one, and beyond
	const most, times = 25140840660, 366868083
	rest := 1<<63 - 1 - times*most
	for more := -2; more <= 2; more++ {
		numerator := append([]int{times}, repeat(0, 23)...)
		numerator = append(numerator, (rest+more)%136)
		numerator[22] = (rest + more) / 136
		n, e := Coefficient(numerator, repeat(1, 16), 24)
		if more <= 0 {
			wantNumber(t, "Coefficient", n, e, 1<<63-1+min(more, 0), api.OK)
		} else {
			wantNumber(t, "Coefficient", n, e, 0, api.ErrLarge)
		}
		for i, x := range numerator {
			numerator[i] = -x
		}
		n, e = Coefficient(numerator, repeat(1, 16), 24)
		if more <= 1 {
			wantNumber(t, "Coefficient", n, e, -1<<63+max(1-more, 0), api.OK)
		} else {
			wantNumber(t, "Coefficient", n, e, 0, api.ErrLarge)
		}
	}
	// Parts of this sum are beyond, but not the sum.
	numerator := []int{900000000, -900000000, -900000000, 900000000}
	n, e := Coefficient(numerator, repeat(1, 16), 24)
	wantNumber(t, "Coefficient", n, e, int(coefficientOf(numerator, repeat(1, 16), 24).Int64()), api.OK)
	want(t, "a part that is beyond", coefficientOf(numerator[:1], repeat(1, 16), 24).IsInt64(), false)
	want(t, "a sum that is not", coefficientOf(numerator, repeat(1, 16), 24).IsInt64(), true)
}

func TestCoefficientErrors(t *testing.T) { // P8.3
	for _, row := range []struct {
		numerator, sizes []int
		t                int
		e                api.Errno
	}{
		{repeat(1<<62, 257), repeat(0, 17), -1, api.ErrMany}, {repeat(1000000000, 256), repeat(0, 17), -1, api.ErrRange}, {[]int{-1000000000}, repeat(0, 17), -1, api.ErrRange},
		{append(repeat(0, 255), -1<<63), nil, 3, api.ErrRange}, {repeat(1, 256), repeat(0, 17), -1, api.ErrMany}, {nil, []int{1, 0}, -1, api.ErrRange}, {nil, []int{1, 25}, 25, api.ErrRange},
		{nil, nil, -1, api.ErrRange}, {nil, repeat(24, 16), 25, api.ErrLimit}, {nil, nil, 1<<63 - 1, api.ErrLimit}, {nil, nil, -1 << 63, api.ErrRange}, {repeat(999999999, 256), repeat(1, 16), 24, api.ErrLarge},
		{repeat(-999999999, 256), repeat(1, 16), 24, api.ErrLarge}, {repeat(999999999, 256), repeat(24, 16), 23, api.OK},
	} {
		n, e := Coefficient(row.numerator, row.sizes, row.t)
		want(t, "error of Coefficient", e, row.e)
		want(t, "there is a result", n != 0, row.e == api.OK)
	}
}
