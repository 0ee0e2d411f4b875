package wide_test

import (
	"math/big"
	"strings"
	"testing"

	"landfall/api"
	"landfall/wide"
)

// numbers returns wides whose texts have edges: powers of ten and of two, one less, one more, and those of wides.
func numbers() []api.Wide {
	l := wides()
	for _, base := range []int64{2, 10} {
		for p := big.NewInt(1); p.BitLen() <= 128; p = new(big.Int).Mul(p, big.NewInt(base)) {
			l = append(l, wideOf(p), wideOf(new(big.Int).Sub(p, big.NewInt(1))))
			if next := new(big.Int).Add(p, big.NewInt(1)); next.BitLen() <= 128 {
				l = append(l, wideOf(next))
			}
		}
	}
	for digit := range uint64(100) {
		l = append(l, api.Wide{Lo: digit})
	}
	return l
}

func readFails(t *testing.T, s string, err api.Errno, at int) {
	t.Helper()
	if a, f := wide.Read(s); a != (api.Wide{}) || f != (api.Fault{Err: err, At: at}) {
		t.Errorf("Read(%q): %v, %v, not %v at %d", s, a, f, err, at)
	}
}

// P1.3

func TestText(t *testing.T) {
	for _, a := range numbers() {
		if s := wide.Text(a); s != bigOf(a).String() {
			t.Errorf("Text(%v): %q", a, s)
		}
	}
	if s := wide.Text(full); s != "340282366920938463463374607431768211455" {
		t.Errorf("Text of the greatest: %q", s)
	}
	if s := wide.Text(api.Wide{}); s != "0" {
		t.Errorf("Text of the least: %q", s)
	}
}

func TestRead(t *testing.T) {
	for _, want := range numbers() {
		if a, f := wide.Read(bigOf(want).String()); a != want || f != (api.Fault{}) {
			t.Errorf("Read of %v: %v, %v", want, a, f)
		}
	}
}

func TestReadOfTextsThatAreNone(t *testing.T) {
	readFails(t, "", api.ErrShort, 0)
	for b := range 256 {
		if b >= '0' && b <= '9' {
			continue
		}
		c := string([]byte{byte(b)})
		readFails(t, c, api.ErrForm, 0)
		readFails(t, c+"1", api.ErrForm, 0)
		readFails(t, "1"+c, api.ErrForm, 1)
		readFails(t, "12"+c+"3"+c, api.ErrForm, 2)
		readFails(t, "0"+c, api.ErrForm, 1)
		readFails(t, "00"+c, api.ErrForm, 2)
	}
	for _, s := range []string{"+1", "-1", " 1", "0x1", "1_000", "1e3", "1 ", "1\n", "٣", "１"} {
		if a, f := wide.Read(s); a != (api.Wide{}) || f.Err != api.ErrForm {
			t.Errorf("Read(%q): %v, %v", s, a, f)
		}
	}
}

func TestReadOfLeadingNoughts(t *testing.T) {
	for _, s := range []string{"00", "01", "07", "000", "0123", "0" + bigOf(full).String(), strings.Repeat("0", 39), strings.Repeat("0", 500)} {
		readFails(t, s, api.ErrForm, 0)
	}
}

func TestReadAboveTheGreatest(t *testing.T) {
	edge := bigOf(full)
	for _, more := range []int64{1, 2, 4, 5, 1 << 40} {
		readFails(t, new(big.Int).Add(edge, big.NewInt(more)).String(), api.ErrRange, 0)
	}
	for _, s := range []string{"340282366920938463463374607431768211460", "340282366920938463463374607431768211500", "350000000000000000000000000000000000000"} {
		readFails(t, s, api.ErrRange, 0)
	}
	for bits := uint(128); bits < 140; bits++ {
		readFails(t, new(big.Int).Lsh(big.NewInt(1), bits).String(), api.ErrRange, 0)
	}
	for n := 39; n < 300; n++ {
		readFails(t, strings.Repeat("9", n), api.ErrRange, 0)
	}
	readFails(t, "1"+strings.Repeat("0", 39), api.ErrRange, 0)
}

// TestReadNamesTheFirstFault: a byte that is no digit comes before a leading nought, and both before a number that is too great.
func TestReadNamesTheFirstFault(t *testing.T) {
	nines := strings.Repeat("9", 60)
	readFails(t, nines+"x", api.ErrForm, 60)
	readFails(t, nines+"x"+nines, api.ErrForm, 60)
	readFails(t, "0"+nines, api.ErrForm, 0)
	readFails(t, "0"+nines+"x", api.ErrForm, 61)
	readFails(t, "340282366920938463463374607431768211456 ", api.ErrForm, 39)
}

// P1.5

func TestWhatIsWrittenIsRead(t *testing.T) {
	for _, a := range numbers() {
		if b, f := wide.Read(wide.Text(a)); b != a || f != (api.Fault{}) {
			t.Errorf("%v: %q, %v, %v", a, wide.Text(a), b, f)
		}
	}
}

// TestNoOtherTextIsRead reads all texts of up to four of these bytes, and the greatest number's with one byte changed, added or left out.
func TestNoOtherTextIsRead(t *testing.T) {
	const bytes = "01289/:+-_.xa \x00\x80\xff"
	texts := []string{""}
	for from := 0; len(texts[from]) < 4; from++ {
		for i := range len(bytes) {
			texts = append(texts, texts[from]+bytes[i:i+1])
		}
	}
	long := wide.Text(full)
	for at := range len(long) {
		for i := range len(bytes) {
			texts = append(texts, long[:at]+bytes[i:i+1]+long[at:], long[:at]+bytes[i:i+1]+long[at+1:])
		}
		texts = append(texts, long[:at]+long[at+1:])
	}
	for _, s := range texts {
		a, f := wide.Read(s)
		if f == (api.Fault{}) && wide.Text(a) != s {
			t.Errorf("%q is read as %v", s, a)
		}
		if f != (api.Fault{}) && a != (api.Wide{}) {
			t.Errorf("%q: %v beside %v", s, a, f)
		}
	}
}
