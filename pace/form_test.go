package pace_test

import (
	"fmt"
	"math"
	"strings"
	"testing"

	"landfall/api"
	"landfall/pace"
)

// P2.2

func TestBits(t *testing.T) {
	for _, bits := range forms() {
		if got := pace.Bits(math.Float64frombits(bits)); got != bits {
			t.Errorf("Bits of %x: %x", bits, got)
		}
	}
	for _, bits := range nans() {
		if got := pace.Bits(math.Float64frombits(bits)); got != nanForm {
			t.Errorf("Bits of %x, a NaN: %x", bits, got)
		}
	}
	if pace.Bits(minus) != signBit || pace.Bits(0) != 0 || pace.Bits(1) != 0x3FF0000000000000 || pace.Bits(nan) != 0x7FF8000000000000 {
		t.Error("-0, 0, 1 or NaN")
	}
}

func TestOf(t *testing.T) {
	for _, bits := range forms() {
		if x, err := pace.Of(bits); !same(x, math.Float64frombits(bits)) || err != api.OK {
			t.Errorf("Of(%x): %x, %v", bits, x, err)
		}
	}
	for _, bits := range nans() {
		if x, err := pace.Of(bits); math.Float64bits(x) != 0 || err != api.ErrForm {
			t.Errorf("Of(%x): %x, %v", bits, x, err)
		}
	}
}

func TestText(t *testing.T) {
	for _, bits := range forms() {
		if got := pace.Text(math.Float64frombits(bits)); got != fmt.Sprintf("%016x", bits) {
			t.Errorf("Text of %x: %q", bits, got)
		}
	}
	for _, bits := range nans() {
		if got := pace.Text(math.Float64frombits(bits)); got != "7ff8000000000000" {
			t.Errorf("Text of %x, a NaN: %q", bits, got)
		}
	}
	for want, x := range map[string]float64{"3ff0000000000000": 1, "8000000000000000": minus, "0000000000000000": 0, "0000000000000001": least, "7ff0000000000000": inf, "fff0000000000000": -inf, "ffefffffffffffff": -math.MaxFloat64} {
		if got := pace.Text(x); got != want {
			t.Errorf("Text(%x): %q", x, got)
		}
	}
}

func readFails(t *testing.T, s string) {
	t.Helper()
	if x, err := pace.Read(s); math.Float64bits(x) != 0 || err != api.ErrForm {
		t.Errorf("Read(%q): %x, %v", s, x, err)
	}
}

func TestRead(t *testing.T) {
	for _, bits := range forms() {
		want := math.Float64frombits(bits)
		if x, err := pace.Read(fmt.Sprintf("%016x", bits)); !same(x, want) || err != api.OK {
			t.Errorf("Read of %016x: %x, %v", bits, x, err)
		}
	}
}

func TestReadOfNaNsThatAreNoForm(t *testing.T) {
	for _, bits := range nans() {
		readFails(t, fmt.Sprintf("%016x", bits))
	}
}

func TestReadOfOtherLengths(t *testing.T) {
	for n := range 100 {
		if n != 16 {
			readFails(t, strings.Repeat("0", n))
			readFails(t, strings.Repeat("1", n))
		}
	}
	for _, s := range []string{"3ff000000000000", "3ff00000000000000", "03ff0000000000000", "3ff0000000000000 ", " 3ff0000000000000", "0x3ff0000000000000", "3ff0000000000000\n", "3ff0000000000000\x00"} {
		readFails(t, s)
	}
}

// TestReadOfBytesThatAreNoDigits has each of them at each place of two texts: capital letters are among them.
func TestReadOfBytesThatAreNoDigits(t *testing.T) {
	for _, text := range []string{"3ff0000000000000", "0123456789abcdef"} {
		for b := range 256 {
			if b < 128 && strings.ContainsRune("0123456789abcdef", rune(b)) {
				continue
			}
			for at := range text {
				readFails(t, text[:at]+string([]byte{byte(b)})+text[at+1:])
			}
		}
	}
	for _, s := range []string{"3FF0000000000000", "3ff000000000000A", "F000000000000000", "0x3ff00000000000", "+3ff000000000000", "-3ff000000000000", "3ff0_00000000000", "  3ff00000000000", "１00000000000000", "００００００００００００００００"} {
		readFails(t, s)
	}
}

// P2.4

func TestWhatIsWrittenIsRead(t *testing.T) {
	for _, want := range paces() {
		if x, err := pace.Of(pace.Bits(want)); pace.Compare(x, want) != 0 || err != api.OK {
			t.Errorf("Bits of %x: %x, %v", math.Float64bits(want), x, err)
		}
		if x, err := pace.Read(pace.Text(want)); pace.Compare(x, want) != 0 || err != api.OK {
			t.Errorf("Text of %x: %x, %v", math.Float64bits(want), x, err)
		}
	}
}

// TestNothingElseIsRead has bits of which one, or many, differ from a form, and texts of which one byte does.
func TestNothingElseIsRead(t *testing.T) {
	words := append(forms(), nans()...)
	for x := uint64(1); x < 2000; x++ {
		words = append(words, mix(x), mix(x)|infinity)
	}
	for _, word := range words {
		for bit := range 65 {
			bits := word ^ 1<<bit // the last one leaves the word as it is
			x, err := pace.Of(bits)
			if err == api.OK && pace.Bits(x) != bits || err != api.OK && bits&^signBit <= infinity {
				t.Fatalf("Of(%x): %x, %v", bits, x, err)
			}
		}
	}
	const bytes = "09afAFgG/:`@ -\x00\xff"
	for _, bits := range forms() {
		text := fmt.Sprintf("%016x", bits)
		for at := range text {
			for i := range len(bytes) {
				s := text[:at] + bytes[i:i+1] + text[at+1:]
				if x, err := pace.Read(s); err == api.OK && pace.Text(x) != s {
					t.Fatalf("%q is read as %x", s, x)
				}
			}
		}
	}
}
