package wide

import (
	"math/bits"

	"landfall/api"
)

// words is a number of 192 bits, its lowest word first: a wide times an int always has room in it.
type words [3]uint64

// add adds the word x at the place at; what does not fit there is carried to the places above.
func (w *words) add(at int, x uint64) {
	sum, carry := bits.Add64(w[at], x, 0)
	w[at] = sum
	for up := at + 1; carry != 0 && up < len(w); up++ {
		w[up], carry = bits.Add64(w[up], 0, carry)
	}
}

// product returns a n.
func product(a api.Wide, n uint64) words {
	var w words
	for at, x := range [2]uint64{a.Lo, a.Hi} {
		hi, lo := bits.Mul64(x, n)
		w.add(at, lo)
		w.add(at+1, hi)
	}
	return w
}

// above returns whether w is greater than v.
func (w words) above(v words) bool {
	for at := len(w) - 1; at >= 0; at-- {
		if w[at] != v[at] {
			return w[at] > v[at]
		}
	}
	return false
}

// wide returns w as a wide, or ErrFull if it needs more than 128 bits.
func (w words) wide() (api.Wide, api.Errno) {
	if w[2] != 0 {
		return api.Wide{}, api.ErrFull
	}
	return api.Wide{Hi: w[1], Lo: w[0]}, api.OK
}
