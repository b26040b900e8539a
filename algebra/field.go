package algebra

// field is what elimination needs of the numbers that it computes with.
type field[T any] interface {
	of(n int) T
	isZero(a T) bool
	minus(a, b T) T
	times(a, b T) T
	over(a, b T) T // b is not 0
}

// rationals is the field of the rational numbers.
type rationals struct{}

func (rationals) of(n int) rational            { return rationalOf(n) }
func (rationals) isZero(a rational) bool       { return a.sign() == 0 }
func (rationals) minus(a, b rational) rational { return a.minus(b) }
func (rationals) times(a, b rational) rational { return a.times(b) }
func (rationals) over(a, b rational) rational  { return a.over(b) }

// residues is the field of the integers modulo a prime number, from 0 to prime - 1.
type residues struct {
	prime int64
}

func (f residues) of(n int) int64         { return remainder(int64(n), f.prime) }
func (f residues) isZero(a int64) bool    { return a == 0 }
func (f residues) minus(a, b int64) int64 { return remainder(a-b, f.prime) }
func (f residues) times(a, b int64) int64 { return a * b % f.prime }

func (f residues) over(a, b int64) int64 {
	inverse, _ := inverseModulo(b, f.prime)
	return f.times(a, inverse)
}
