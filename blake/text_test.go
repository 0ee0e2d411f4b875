package blake_test

import (
	"fmt"
	"strings"
	"testing"

	"landfall/api"
	"landfall/blake"
)

// hashes returns hashes with each byte alone set, and some without a visible pattern.
func hashes() []api.Hash {
	l := []api.Hash{{}}
	for at := range len(api.Hash{}) {
		for _, x := range []byte{1, 9, 10, 15, 16, 0x7f, 0x80, 0x9f, 0xa0, 0xff} {
			var h api.Hash
			h[at] = x
			l = append(l, h)
			for i := range h {
				h[i] = ^h[i]
			}
			l = append(l, h)
		}
	}
	for n := range 100 {
		l = append(l, blake.Sum(sample(n)))
	}
	return l
}

// P3.2

func TestText(t *testing.T) {
	for _, h := range hashes() {
		if got := blake.Text(h); got != fmt.Sprintf("%x", h[:]) {
			t.Errorf("Text of %x: %q", h, got)
		}
	}
	h := api.Hash{0x01, 0x23, 0x45, 0x67, 0x89, 0xab, 0xcd, 0xef, 31: 0xf0}
	if got := blake.Text(h); got != "0123456789abcdef"+strings.Repeat("0", 46)+"f0" {
		t.Errorf("Text of %x: %q", h, got)
	}
}

func readFails(t *testing.T, s string) {
	t.Helper()
	if h, err := blake.Read(s); h != (api.Hash{}) || err != api.ErrForm {
		t.Errorf("Read(%q): %x, %v", s, h, err)
	}
}

func TestRead(t *testing.T) {
	for _, want := range hashes() {
		if h, err := blake.Read(fmt.Sprintf("%x", want[:])); h != want || err != api.OK {
			t.Errorf("Read of %x: %x, %v", want, h, err)
		}
	}
}

func TestReadOfOtherLengths(t *testing.T) {
	for n := range 200 {
		if n != 64 {
			readFails(t, strings.Repeat("0", n))
			readFails(t, strings.Repeat("a", n))
			readFails(t, strings.Repeat("A", n))
		}
	}
	text := blake.Text(blake.Sum(nil))
	for _, s := range []string{" " + text, text + " ", text + "\n", text + "\x00", "0x" + text, "0" + text, text + "0", text + text} {
		readFails(t, s)
	}
}

// TestReadOfBytesThatAreNoDigits has each of them at each place of a text: capital letters are among them.
func TestReadOfBytesThatAreNoDigits(t *testing.T) {
	text := blake.Text(blake.Sum(nil))
	for b := range 256 {
		if b < 128 && strings.ContainsRune("0123456789abcdef", rune(b)) {
			continue
		}
		for at := range text {
			readFails(t, text[:at]+string([]byte{byte(b)})+text[at+1:])
		}
	}
}

// TestReadOfTextsThatAreNoHash has 64 bytes, or 64 characters, but not 64 digits.
func TestReadOfTextsThatAreNoHash(t *testing.T) {
	for _, s := range []string{
		strings.Repeat("A", 64), strings.Repeat("F", 64), strings.Repeat("g", 64), strings.Repeat(" ", 64), strings.Repeat("\x00", 64), strings.Repeat("\xff", 64),
		strings.ToUpper(blake.Text(blake.Sum(nil))),
		strings.Repeat("é", 32), strings.Repeat("é", 64), strings.Repeat("０", 64), strings.Repeat("０", 21) + "0",
		strings.Repeat("0", 62) + "é", "é" + strings.Repeat("0", 62), "é" + strings.Repeat("0", 63), strings.Repeat("0", 63) + "é",
		strings.Repeat("0", 61) + "０", strings.Repeat("0", 61) + "\uFFFD", strings.Repeat("0", 63) + "\xf0", strings.Repeat("0", 60) + "\U0001F600",
		"0x" + strings.Repeat("0", 62), "+" + strings.Repeat("0", 63), "-" + strings.Repeat("0", 63), strings.Repeat("0", 31) + "_" + strings.Repeat("0", 32),
	} {
		readFails(t, s)
	}
}

func TestCompare(t *testing.T) {
	for _, r := range []struct {
		a, b api.Hash
		want int
	}{
		{api.Hash{}, api.Hash{}, 0},
		{api.Hash{1}, api.Hash{0, 9}, 1},
		{api.Hash{0, 9}, api.Hash{1}, -1},
		{api.Hash{0x7f}, api.Hash{0x80}, -1}, // bytes have no sign
		{api.Hash{0xff}, api.Hash{}, 1},
		{api.Hash{1, 31: 1}, api.Hash{1, 31: 2}, -1},
		{api.Hash{1, 31: 2}, api.Hash{1, 31: 1}, 1},
		{api.Hash{1, 2, 9}, api.Hash{1, 3, 0}, -1}, // the first one that differs, not the greatest
		{api.Hash{31: 255}, api.Hash{30: 1}, -1},
	} {
		if got := blake.Compare(r.a, r.b); got != r.want {
			t.Errorf("Compare(%x, %x): %d", r.a, r.b, got)
		}
	}
}

// TestCompareAtEachByte has hashes that differ in that byte alone, and then in the later ones the other way as well.
func TestCompareAtEachByte(t *testing.T) {
	a := blake.Sum(nil)
	for at := range a {
		for x := range 256 {
			b := a
			b[at] = byte(x)
			want := 0
			if a[at] < b[at] {
				want = -1
			} else if a[at] > b[at] {
				want = 1
			}
			for i := at; i < len(a); i++ {
				if i > at && want != 0 {
					b[i] = byte(int(a[i]) + want)
				}
				if blake.Compare(a, b) != want || blake.Compare(b, a) != -want {
					t.Fatalf("Compare(%x, %x) is not %d, or not %d turned", a, b, want, -want)
				}
			}
		}
		if blake.Compare(a, a) != 0 {
			t.Fatalf("Compare(%x, %x)", a, a)
		}
	}
}

// P3.3

func TestTextsAreReadAsTheyWere(t *testing.T) {
	for _, want := range hashes() {
		if h, err := blake.Read(blake.Text(want)); h != want || err != api.OK {
			t.Errorf("Read of the text of %x: %x, %v", want, h, err)
		}
	}
}

// TestNoOtherTextIsRead has texts of which one byte differs from a hash's text.
func TestNoOtherTextIsRead(t *testing.T) {
	for n := range 10 {
		text := blake.Text(blake.Sum(sample(n)))
		for at := range text {
			for b := range 256 {
				s := text[:at] + string([]byte{byte(b)}) + text[at+1:]
				h, err := blake.Read(s)
				if isText := strings.Trim(s, "0123456789abcdef") == ""; isText != (err == api.OK) || isText && blake.Text(h) != s {
					t.Fatalf("Read(%q): %x, %v", s, h, err)
				}
			}
		}
	}
}

func TestTextsHaveTheOrderOfHashes(t *testing.T) {
	l := hashes()
	for _, a := range l {
		for _, b := range l {
			if blake.Compare(a, b) != strings.Compare(blake.Text(a), blake.Text(b)) {
				t.Fatalf("%x, %x", a, b)
			}
		}
	}
}
