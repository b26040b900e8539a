package construct

import (
	"talisman/algebra"
	"talisman/api"
)

// Admits reports whether the numbers of a rule of steps say that its square is of a kind.
func Admits(s api.Step, kind string) (bool, api.Errno) {
	r, k, e := ruleAndKind(s, kind)
	if e != api.OK {
		return false, e
	}
	return k.isSaid(r), api.OK
}

// stepKind is a kind of rules: the condition that their numbers satisfy, and
// how many lines of their squares, from the first one on, have the constant.
type stepKind struct {
	isSaid func(r rule) bool
	lines  func(n int) int
}

func kinds() map[string]stepKind {
	return map[string]stepKind{
		"square":      {rule.isSquare, func(n int) int { return 0 }},
		"semimagic":   {rule.isSemimagic, func(n int) int { return 2 * n }},
		"magic":       {rule.isMagic, func(n int) int { return 2*n + 2 }},
		"pandiagonal": {rule.isPandiagonal, func(n int) int { return 4 * n }},
	}
}

// ruleAndKind returns a rule and a kind, or the first error of both.
func ruleAndKind(s api.Step, name string) (rule, stepKind, api.Errno) {
	r, e := ruleOf(s)
	if e != api.OK {
		return rule{}, stepKind{}, e
	}
	k, known := kinds()[name]
	if !known {
		return rule{}, stepKind{}, api.ErrKind
	}
	return r, k, api.OK
}

func (r rule) isSquare() bool {
	return arePrime(r.N, r.Next[0]*r.Break[1]-r.Next[1]*r.Break[0])
}

func (r rule) isSemimagic() bool {
	return r.isSquare() && arePrime(r.N, r.Next[0], r.Next[1], r.Break[0], r.Break[1])
}

func (r rule) isMagic() bool {
	main := r.isBalanced(r.Next[0]-r.Next[1], r.Break[0]-r.Break[1], r.Start[1]-r.Start[0])
	other := r.isBalanced(r.Next[0]+r.Next[1], r.Break[0]+r.Break[1], -1-r.Start[0]-r.Start[1])
	return r.isSemimagic() && main && other
}

func (r rule) isPandiagonal() bool {
	return r.isSemimagic() && arePrime(r.N,
		r.Next[0]-r.Next[1], r.Next[0]+r.Next[1], r.Break[0]-r.Break[1], r.Break[0]+r.Break[1])
}

// isBalanced reports whether the diagonal is balanced whose cells have the
// digits with a u + b v = c modulo N.
func (r rule) isBalanced(u, v, c int) bool {
	return isCentred(u, c, divisor(v, r.N)) && isCentred(v, c, divisor(u, r.N))
}

// isCentred reports whether x = (d - 1) / 2 is an integer with x u = c modulo d.
// It then is the only remainder with this product: u is prime to d where no two
// numbers of a rule meet.
func isCentred(u, c, d int) bool {
	return d%2 == 1 && modulo((d-1)/2*u-c, d) == 0
}

// arePrime reports whether all of some numbers are prime to n.
func arePrime(n int, numbers ...int) bool {
	for _, x := range numbers {
		if divisor(x, n) != 1 {
			return false
		}
	}
	return true
}

// divisor returns the greatest common divisor with n, which is n for 0.
func divisor(x, n int) int {
	d, _ := algebra.Gcd(x, n)
	return d
}
