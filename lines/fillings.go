package lines

import (
	"talisman/api"
)

// Sums returns the sums of all lines.
func Sums(s api.System, f []int) ([]int, api.Errno) {
	if e := checkFilling(s, f); e != api.OK {
		return nil, e
	}
	sums := make([]int, len(s.Lines))
	for i, line := range s.Lines {
		for _, cell := range line {
			sums[i] += f[cell]
		}
	}
	return sums, api.OK
}

// checkFilling returns the first error of a system and a filling of it.
func checkFilling(s api.System, f []int) api.Errno {
	if e := CheckSystem(s); e != api.OK {
		return e
	}
	if len(f) != s.Cells {
		return api.ErrShape
	}
	return checkNumbers(f)
}

// IsMagic reports whether all lines have the same sum.
func IsMagic(s api.System, f []int) (bool, api.Errno) {
	_, e := First(s, f)
	if e == api.ErrNone {
		return true, api.OK
	}
	return false, e
}

// First returns the first line with another sum than the line 0.
func First(s api.System, f []int) (int, api.Errno) {
	sums, e := Sums(s, f)
	if e != api.OK {
		return 0, e
	}
	for i, sum := range sums {
		if sum != sums[0] {
			return i, api.OK
		}
	}
	return 0, api.ErrNone
}

// IsNormal reports whether a filling has the numbers from 1 on, each one once.
func IsNormal(f []int) (bool, api.Errno) {
	if len(f) == 0 {
		return false, api.ErrEmpty
	}
	if len(f) > api.MaxCells {
		return false, api.ErrMany
	}
	if e := checkNumbers(f); e != api.OK {
		return false, e
	}
	return isOneOn(f), api.OK
}

// Complement returns the complement of a normal filling.
func Complement(f []int) ([]int, api.Errno) {
	normal, e := IsNormal(f)
	if e != api.OK {
		return nil, e
	}
	if !normal {
		return nil, api.ErrPerm
	}
	complement := make([]int, len(f))
	for i, x := range f {
		complement[i] = len(f) + 1 - x
	}
	return complement, api.OK
}
