// Package wide is layer 1: numbers of 128 bits, their sums, products and texts: see shared/doc/01-wide.md.
package wide

import (
	"cmp"
	"math"

	"landfall/api"
)

// Of returns n as a wide.
func Of(n int) (api.Wide, api.Errno) {
	if n < 0 {
		return api.Wide{}, api.ErrRange
	}
	return api.Wide{Lo: uint64(n)}, api.OK
}

// Plus returns a + b, or ErrFull if that needs more than 128 bits.
func Plus(a, b api.Wide) (api.Wide, api.Errno) {
	sum := words{a.Lo, a.Hi}
	sum.add(0, b.Lo)
	sum.add(1, b.Hi)
	return sum.wide()
}

// Times returns a n, or ErrFull if that needs more than 128 bits.
func Times(a api.Wide, n int) (api.Wide, api.Errno) {
	if n < 0 {
		return api.Wide{}, api.ErrRange
	}
	return product(a, uint64(n)).wide()
}

// Sum returns the sum of all of l.
func Sum(l []int) (api.Wide, api.Errno) {
	return fold(l, api.Wide{}, func(sum api.Wide, n int) (api.Wide, api.Errno) {
		a, err := Of(n)
		if err != api.OK {
			return api.Wide{}, err
		}
		return Plus(sum, a)
	})
}

// fold joins the elements of l to first, one after the other, and ends at the first error.
func fold[A, T any](l []T, first A, join func(A, T) (A, api.Errno)) (A, api.Errno) {
	so := first
	for _, x := range l {
		next, err := join(so, x)
		if err != api.OK {
			var none A
			return none, err
		}
		so = next
	}
	return so, api.OK
}

// Cmp returns -1, 0 or 1, if a is less than, equal to or greater than b.
func Cmp(a, b api.Wide) int {
	if a.Hi != b.Hi {
		return cmp.Compare(a.Hi, b.Hi)
	}
	return cmp.Compare(a.Lo, b.Lo)
}

// More returns whether a n is greater than b m, even where these products need more than 128 bits.
func More(a api.Wide, n int, b api.Wide, m int) (bool, api.Errno) {
	if n < 0 || m < 0 {
		return false, api.ErrRange
	}
	return product(a, uint64(n)).above(product(b, uint64(m))), api.OK
}

// Clamp returns a, but at most the greatest int.
func Clamp(a api.Wide) int {
	if a.Hi != 0 || a.Lo > math.MaxInt {
		return math.MaxInt
	}
	return int(a.Lo)
}
