package wide

import (
	"iter"
	"math/bits"

	"landfall/api"
)

// maxDigits is how many digits 2^128 - 1 has.
const maxDigits = 39

// digits produces the decimal digits of a as characters, from the last one on.
func digits(a api.Wide) iter.Seq[byte] {
	return func(yield func(byte) bool) {
		rest, digit := tenth(a)
		for yield('0'+digit) && rest != (api.Wide{}) {
			rest, digit = tenth(rest)
		}
	}
}

// tenth returns a divided by ten, and what remains.
func tenth(a api.Wide) (api.Wide, byte) {
	lo, rest := bits.Div64(a.Hi%10, a.Lo, 10)
	return api.Wide{Hi: a.Hi / 10, Lo: lo}, byte(rest)
}

// Text returns the decimal digits of a.
func Text(a api.Wide) string {
	var text [maxDigits]byte
	at := len(text)
	for digit := range digits(a) {
		at--
		text[at] = digit
	}
	return string(text[at:])
}

// Read returns the number that Text writes as s, or what is wrong with s, and where.
func Read(s string) (api.Wide, api.Fault) {
	if s == "" {
		return api.Wide{}, api.Fault{Err: api.ErrShort}
	}
	if at := notDigit(s); at < len(s) {
		return api.Wide{}, api.Fault{Err: api.ErrForm, At: at}
	}
	if len(s) > 1 && s[0] == '0' {
		return api.Wide{}, api.Fault{Err: api.ErrForm}
	}
	if len(s) > maxDigits {
		return api.Wide{}, api.Fault{Err: api.ErrRange}
	}
	a, err := fold([]byte(s), api.Wide{}, join)
	if err != api.OK {
		return api.Wide{}, api.Fault{Err: api.ErrRange}
	}
	return a, api.Fault{}
}

// notDigit returns the place of the first byte of s that is not a digit, or how long s is.
func notDigit(s string) int {
	for at := range len(s) {
		if s[at] < '0' || s[at] > '9' {
			return at
		}
	}
	return len(s)
}

// join returns the number whose digits are those of a, and then digit.
func join(a api.Wide, digit byte) (api.Wide, api.Errno) {
	tens, err := Times(a, 10)
	if err != api.OK {
		return api.Wide{}, err
	}
	return Plus(tens, api.Wide{Lo: uint64(digit - '0')})
}
