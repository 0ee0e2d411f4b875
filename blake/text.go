package blake

import (
	"bytes"

	"landfall/api"
)

const digits = "0123456789abcdef"

// value returns what a digit of base 16 is worth; -1 if it is none.
func value(digit rune) int {
	switch {
	case digit >= '0' && digit <= '9':
		return int(digit - '0')
	case digit >= 'a' && digit <= 'f':
		return int(digit-'a') + 10
	}
	return -1
}

// Text returns the bytes of h as digits of base 16, two for each.
func Text(h api.Hash) string {
	var text [2 * len(h)]byte
	for at, x := range h {
		text[2*at], text[2*at+1] = digits[x>>4], digits[x&15]
	}
	return string(text[:])
}

// Read returns the hash that Text writes as s, or ErrForm if it writes none so.
func Read(s string) (api.Hash, api.Errno) {
	var h api.Hash
	if len(s) != 2*len(h) {
		return api.Hash{}, api.ErrForm
	}
	for at, digit := range s {
		x := value(digit)
		if x < 0 {
			return api.Hash{}, api.ErrForm
		}
		h[at/2] = h[at/2]<<4 | byte(x)
	}
	return h, api.OK
}

// Compare returns -1, 0 or 1 if a is less than b, equal, or greater, by the first byte in which they differ.
func Compare(a, b api.Hash) int {
	return bytes.Compare(a[:], b[:])
}
