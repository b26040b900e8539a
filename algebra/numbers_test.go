package algebra

import (
	"math"
	"math/big"
	"math/rand"
	"strings"
	"testing"

	"talisman/api"
)

func TestIsName(t *testing.T) { // P1.1
	for s, is := range map[string]bool{
		"a": true, "z": true, "A": true, "Z": true, "lo_shu": true, "x9": true, "x_": true, "Q0_a": true,
		strings.Repeat("x", 24): true, strings.Repeat("x", 25): false,
		"": false, "_": false, "_x": false, "3x3": false, "0": false, "a b": false, " a": false, "a-b": false, "a.": false,
		"é": false, "aé": false, "a٣": false, "a\xff": false, "a\x00": false, "a\n": false,
		"@": false, "[": false, "`": false, "{": false, "a/": false, "a:": false,
		strings.Repeat("é", 12): false,
	} {
		want(t, "IsName of "+s, IsName(s), is)
	}
}

func TestCheck(t *testing.T) { // P1.1
	for a, e := range map[api.Rat]api.Errno{
		"0": api.OK, "7": api.OK, "-7": api.OK, "3/2": api.OK, "-3/2": api.OK, "1/10": api.OK, "100": api.OK,
		"": api.ErrForm, "-": api.ErrForm, "/": api.ErrForm, "1/": api.ErrForm, "/2": api.ErrForm, "-/2": api.ErrForm,
		"--1": api.ErrForm, "+1": api.ErrForm, " 1": api.ErrForm, "1 ": api.ErrForm, "1.5": api.ErrForm, "1e3": api.ErrForm,
		"1/-2": api.ErrForm, "1/2/3": api.ErrForm, "٣": api.ErrForm, "0x1": api.ErrForm, "1_000": api.ErrForm,
		"00": api.ErrForm, "01": api.ErrForm, "-01": api.ErrForm, "1/02": api.ErrForm, "1/00": api.ErrForm,
		"-0": api.ErrForm, "-0/5": api.ErrForm, "0/5": api.ErrForm, "0/0": api.ErrForm, "0/1": api.ErrForm,
		"1/0": api.ErrForm, "3/1": api.ErrForm, "4/6": api.ErrForm, "-4/6": api.ErrForm, "2/2": api.ErrForm,
		digits("9", 600): api.OK, "-" + digits("9", 600): api.OK, digits("9", 601): api.ErrLarge, "-" + digits("9", 601): api.ErrLarge,
		"1/" + digits("9", 600): api.OK, "1/" + digits("9", 601): api.ErrLarge,
		digits("7", 601) + "/" + digits("7", 601): api.ErrLarge,
		"2/" + digits("2", 600):                   api.ErrForm,
		"2/" + digits("2", 601):                   api.ErrLarge,
		"0/" + digits("3", 601):                   api.ErrLarge,
		"-0/" + digits("3", 601):                  api.ErrForm,
		digits("9", 601) + "/1":                   api.ErrForm,
		digits("9", 601) + "/0":                   api.ErrForm,
		digits("9", 601) + "x":                    api.ErrForm,
		"0" + digits("9", 601):                    api.ErrForm,
	} {
		want(t, "Check of "+string(a), Check(a), e)
	}
}

func TestOf(t *testing.T) { // P1.1
	for _, row := range []struct {
		num, den int
		a        api.Rat
		e        api.Errno
	}{
		{6, -4, "-3/2", api.OK}, {0, -5, "0", api.OK}, {0, math.MinInt, "0", api.OK}, {-7, 1, "-7", api.OK}, {-6, -3, "2", api.OK},
		{math.MinInt, -1, "9223372036854775808", api.OK}, {math.MinInt, 1, "-9223372036854775808", api.OK},
		{1, math.MinInt, "-1/9223372036854775808", api.OK}, {math.MinInt, math.MinInt, "1", api.OK},
		{math.MaxInt, math.MinInt, "-9223372036854775807/9223372036854775808", api.OK},
		{1, 0, "", api.ErrZero}, {0, 0, "", api.ErrZero}, {math.MinInt, 0, "", api.ErrZero},
	} {
		a, e := Of(row.num, row.den)
		want(t, "Of", a, row.a)
		want(t, "error of Of", e, row.e)
	}
}

func TestArithmeticAgreesWithBig(t *testing.T) { // P1.1
	random := rand.New(rand.NewSource(4))
	for range 3000 {
		a, b := someNumber(random, 900), someNumber(random, 900)
		x, y := exact(a), exact(b)
		want(t, "Check", Check(a), api.OK)
		sum, e := Add(a, b)
		want(t, "Add", [2]any{sum, e}, [2]any{textOf(new(big.Rat).Add(x, y)), api.OK})
		difference, e := Sub(a, b)
		want(t, "Sub", [2]any{difference, e}, [2]any{textOf(new(big.Rat).Sub(x, y)), api.OK})
		product, e := Mul(a, b)
		want(t, "Mul", [2]any{product, e}, [2]any{textOf(new(big.Rat).Mul(x, y)), api.OK})
		order, e := Compare(a, b)
		want(t, "Compare", [2]any{order, e}, [2]any{x.Cmp(y), api.OK})
		if b != "0" {
			quotient, e := Div(a, b)
			want(t, "Div", [2]any{quotient, e}, [2]any{textOf(new(big.Rat).Quo(x, y)), api.OK})
		}
		zero, e := Sub(a, a)
		want(t, "Sub of equal numbers", [2]any{zero, e}, [2]any{api.Rat("0"), api.OK})
	}
}

func TestArithmeticErrors(t *testing.T) { // P1.1
	large, form := digits("9", 601), api.Rat("4/6")
	for name, f := range map[string]func(a, b api.Rat) (api.Rat, api.Errno){"Add": Add, "Sub": Sub, "Mul": Mul, "Div": Div} {
		for _, row := range []struct {
			a, b api.Rat
			e    api.Errno
		}{{form, large, api.ErrForm}, {large, form, api.ErrLarge}, {"1", form, api.ErrForm}, {"1", large, api.ErrLarge}, {"", "", api.ErrForm}, {form, "0", api.ErrForm}, {large, "0", api.ErrLarge}} {
			r, e := f(row.a, row.b)
			want(t, name+" of "+string(row.a)+" and "+string(row.b), [2]any{r, e}, [2]any{api.Rat(""), row.e})
		}
	}
	for _, row := range []struct {
		a, b api.Rat
		e    api.Errno
	}{{form, large, api.ErrForm}, {large, form, api.ErrLarge}, {"1", form, api.ErrForm}} {
		r, e := Compare(row.a, row.b)
		want(t, "Compare", [2]any{r, e}, [2]any{0, row.e})
	}
	for _, a := range []api.Rat{"1", "0", "-1/2"} {
		r, e := Div(a, "0")
		want(t, "Div by 0", [2]any{r, e}, [2]any{api.Rat(""), api.ErrZero})
	}
	_, e := Div("1", "-0")
	want(t, "Div by -0", e, api.ErrForm)
}

func TestArithmeticLimits(t *testing.T) { // P1.1
	nines := digits("9", 600)
	for _, row := range []struct {
		what string
		f    func(a, b api.Rat) (api.Rat, api.Errno)
		a, b api.Rat
		r    api.Rat
		e    api.Errno
	}{
		{"a sum of 601 digits", Add, nines, "1", "", api.ErrLarge},
		{"a negative sum of 601 digits", Sub, "-" + nines, "1", "", api.ErrLarge},
		{"a sum of 600 digits", Add, digits("9", 599) + "8", "1", nines, api.OK},
		{"a product of 601 digits", Mul, tenTo(300), tenTo(300), "", api.ErrLarge},
		{"a product of 600 digits", Mul, tenTo(300), tenTo(299), tenTo(599), api.OK},
		{"a denominator of 601 digits", Div, "1/" + tenTo(300), tenTo(300), "", api.ErrLarge},
		{"a denominator of 600 digits", Div, "1/" + tenTo(300), tenTo(299), "1/" + tenTo(599), api.OK},
		{"a numerator of 601 digits above a denominator", Add, nines, "1/2", "", api.ErrLarge},
		{"a product far too large", Mul, nines, nines, "", api.ErrLarge},
		{"large numbers on the way", Div, nines, nines, "1", api.OK},
		{"large numbers that cancel out", Mul, nines + "/" + tenTo(599), tenTo(599) + "/" + nines, "1", api.OK},
		{"large denominators that cancel out", Sub, "1/" + nines, "1/" + nines, "0", api.OK},
	} {
		r, e := row.f(row.a, row.b)
		want(t, row.what, [2]any{r, e}, [2]any{row.r, row.e})
	}
	order, e := Compare(nines+"/"+tenTo(599), "-"+tenTo(599)+"/"+nines)
	want(t, "Compare of large numbers", [2]any{order, e}, [2]any{1, api.OK})
}

func TestGcd(t *testing.T) { // P1.1
	for _, row := range []struct {
		a, b, g int
		e       api.Errno
	}{
		{12, -18, 6, api.OK}, {-12, -18, 6, api.OK}, {0, 0, 0, api.OK}, {0, -5, 5, api.OK}, {-5, 0, 5, api.OK}, {1, 7, 1, api.OK},
		{-999999999, 999999999, 999999999, api.OK}, {1000000000, 1, 0, api.ErrRange}, {1, -1000000000, 0, api.ErrRange},
		{math.MinInt, 0, 0, api.ErrRange}, {0, math.MaxInt, 0, api.ErrRange},
	} {
		g, e := Gcd(row.a, row.b)
		want(t, "Gcd", [2]any{g, e}, [2]any{row.g, row.e})
	}
}

func TestInverse(t *testing.T) { // P1.1
	for _, row := range []struct {
		a, n, i int
		e       api.Errno
	}{
		{3, 10, 7, api.OK}, {-3, 10, 3, api.OK}, {13, 10, 7, api.OK}, {4, 10, 0, api.ErrNone}, {0, 7, 0, api.ErrNone}, {7, 7, 0, api.ErrNone},
		{5, 1, 0, api.OK}, {0, 1, 0, api.OK}, {1, 2, 1, api.OK}, {-999999999, 1, 0, api.OK}, {999999998, 999999999, 999999998, api.OK},
		{3, 0, 0, api.ErrRange}, {3, -7, 0, api.ErrRange}, {3, 1000000000, 0, api.ErrRange}, {1000000000, 7, 0, api.ErrRange},
		{-1000000000, 7, 0, api.ErrRange}, {math.MinInt, math.MinInt, 0, api.ErrRange},
	} {
		i, e := Inverse(row.a, row.n)
		want(t, "Inverse", [2]any{i, e}, [2]any{row.i, row.e})
	}
	for n := 2; n < 60; n++ {
		for a := -70; a < 70; a++ {
			i, e := Inverse(a, n)
			g, _ := Gcd(a, n)
			if e == api.OK && (i < 0 || i >= n || remainder(int64(a*i), int64(n)) != 1) || e != api.OK && e != api.ErrNone || (e == api.OK) != (g == 1) {
				t.Errorf("Inverse of %d modulo %d: %d, %d", a, n, i, e)
			}
		}
	}
}

func TestIsPrime(t *testing.T) { // P1.1
	composite := make([]bool, 20000)
	composite[0], composite[1] = true, true
	for n := range composite {
		for k := 2 * n; n > 1 && k < len(composite); k += n {
			composite[k] = true
		}
		is, e := IsPrime(n)
		want(t, "IsPrime", [2]any{is, e}, [2]any{!composite[n], api.OK})
	}
	for _, row := range []struct {
		n  int
		is bool
		e  api.Errno
	}{
		{999999937, true, api.OK}, {999999999, false, api.OK}, {31607 * 31607, false, api.OK}, {999983 * 991, false, api.OK},
		{-1, false, api.ErrRange}, {-2, false, api.ErrRange}, {1000000000, false, api.ErrRange}, {1000000007, false, api.ErrRange}, {math.MinInt, false, api.ErrRange},
	} {
		is, e := IsPrime(row.n)
		want(t, "IsPrime", [2]any{is, e}, [2]any{row.is, row.e})
	}
}
