package pace

import (
	"math"
	"strings"

	"landfall/api"
)

const (
	nanForm    = 0x7FF8000000000000
	digits     = "0123456789abcdef"
	formDigits = 16
)

// Bits returns the form of x: its bits, but the same ones for every NaN.
func Bits(x float64) uint64 {
	if math.IsNaN(x) {
		return nanForm
	}
	return math.Float64bits(x)
}

// Of returns the pace whose form is bits, or ErrForm if they are no pace's form.
func Of(bits uint64) (float64, api.Errno) {
	x := math.Float64frombits(bits)
	if Bits(x) != bits {
		return 0, api.ErrForm
	}
	return x, api.OK
}

// Text returns the form of x as 16 digits of base 16, the highest first.
func Text(x float64) string {
	var text [formDigits]byte
	bits := Bits(x)
	for done := range formDigits {
		text[formDigits-1-done] = digits[bits&15]
		bits >>= 4
	}
	return string(text[:])
}

// Read returns the pace that Text writes as s, or ErrForm if it writes none so.
func Read(s string) (float64, api.Errno) {
	if len(s) != formDigits {
		return 0, api.ErrForm
	}
	var bits uint64
	for at := range formDigits {
		digit := strings.IndexByte(digits, s[at])
		if digit < 0 {
			return 0, api.ErrForm
		}
		bits = bits<<4 | uint64(digit)
	}
	return Of(bits)
}
