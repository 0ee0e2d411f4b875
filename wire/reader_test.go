package wire_test

import (
	"bytes"
	"math"
	"math/big"
	"slices"
	"strings"
	"testing"

	"landfall/api"
	"landfall/pace"
	"landfall/wire"
)

// kind is a kind of elements: how one is read, and written again; how many of b's first bytes one has, or what is wrong with them; and what is written of zero.
type kind struct {
	what  string
	again func(*wire.Reader, *wire.Writer) api.Errno
	size  func(b []byte) (int, api.Errno)
	zero  []byte
}

// sizeOfNum returns how many bytes a number has that b begins with, and the number.
func sizeOfNum(b []byte) (int, *big.Int, api.Errno) {
	if len(b) == 0 {
		return 0, nil, api.ErrShort
	}
	k := int(b[0])
	if k > 8 {
		return 0, nil, api.ErrForm
	}
	if len(b) < 1+k {
		return 0, nil, api.ErrShort
	}
	n := new(big.Int).SetBytes(b[1 : 1+k])
	if k > 0 && b[1] == 0 || n.BitLen() > 63 {
		return 0, nil, api.ErrForm
	}
	return 1 + k, n, api.OK
}

// sizeOfSized returns how many bytes a text of at most most bytes has that b begins with.
func sizeOfSized(most int) func(b []byte) (int, api.Errno) {
	return func(b []byte) (int, api.Errno) {
		head, n, err := sizeOfNum(b)
		switch {
		case err != api.OK:
			return 0, err
		case n.Cmp(big.NewInt(int64(max(most, 0)))) > 0:
			return 0, api.ErrLong
		case n.Cmp(big.NewInt(int64(len(b)-head))) > 0:
			return 0, api.ErrShort
		}
		return head + int(n.Int64()), api.OK
	}
}

// sizeOfFixed returns how many bytes something has that always has n of them, and more to be right.
func sizeOfFixed(n int, right func(b []byte) bool) func(b []byte) (int, api.Errno) {
	return func(b []byte) (int, api.Errno) {
		switch {
		case len(b) < n:
			return 0, api.ErrShort
		case !right(b[:n]):
			return 0, api.ErrForm
		}
		return n, api.OK
	}
}

func always([]byte) bool { return true }

// isPace reports whether b is the form of a pace: bits of NaN have an exponent of ones, and after it not only noughts.
func isPace(b []byte) bool {
	n := new(big.Int).SetBytes(b).Uint64()
	return n<<1 <= 0x7FF0000000000000<<1 || n == nanForm
}

func numKind() kind {
	return kind{"Num", func(r *wire.Reader, w *wire.Writer) api.Errno { return w.Num(r.Num()) }, func(b []byte) (int, api.Errno) {
		size, _, err := sizeOfNum(b)
		return size, err
	}, []byte{0}}
}

func textKind(most int) kind {
	return kind{"Text", func(r *wire.Reader, w *wire.Writer) api.Errno { return w.Text(r.Text(most)) }, sizeOfSized(most), []byte{0}}
}

func bytesKind(most int) kind {
	return kind{"Bytes", func(r *wire.Reader, w *wire.Writer) api.Errno { return w.Bytes(r.Bytes(most)) }, sizeOfSized(most), []byte{0}}
}

func boolKind() kind {
	return kind{"Bool", func(r *wire.Reader, w *wire.Writer) api.Errno { return w.Bool(r.Bool()) }, sizeOfFixed(1, func(b []byte) bool { return b[0] < 2 }), make([]byte, 1)}
}

func paceKind() kind {
	return kind{"Pace", func(r *wire.Reader, w *wire.Writer) api.Errno { return w.Pace(r.Pace()) }, sizeOfFixed(8, isPace), make([]byte, 8)}
}

// fixed returns the kinds that always have as many bytes.
func fixed() []kind {
	return []kind{
		{"Hash", func(r *wire.Reader, w *wire.Writer) api.Errno { return w.Hash(r.Hash()) }, sizeOfFixed(32, always), make([]byte, 32)},
		{"Key", func(r *wire.Reader, w *wire.Writer) api.Errno { return w.Key(r.Key()) }, sizeOfFixed(4, always), make([]byte, 4)},
		{"Word", func(r *wire.Reader, w *wire.Writer) api.Errno { return w.Word(r.Word()) }, sizeOfFixed(8, always), make([]byte, 8)},
		paceKind(),
		boolKind(),
	}
}

// plain returns each kind once, texts and bytes of any length.
func plain() []kind {
	return append(fixed(), numKind(), textKind(maxInt), bytesKind(maxInt))
}

// kinds returns all of them, texts and bytes with a most of every sort.
func kinds() []kind {
	l := plain()
	for _, most := range []int{math.MinInt, -1, 0, 1, 2, 300} {
		l = append(l, textKind(most), bytesKind(most))
	}
	return l
}

// checkRead reads elements of these kinds from b, one after the other, and reports whether each is what the forms say: as it stands there, or zero from the first fault on.
func checkRead(t *testing.T, b []byte, l ...kind) {
	t.Helper()
	r, w := wire.NewReader(b), newWriter(t, api.MaxWire)
	at, rest, fault := 0, len(b), api.Fault{}
	var want []byte
	for _, k := range l {
		if got := r.Rest(); got != rest {
			t.Fatalf("%.40x: Rest before %s at %d: %d, not %d", b, k.what, at, got, rest)
		}
		if err := k.again(r, w); err != api.OK {
			t.Fatalf("%.40x: %s at %d, written again: %v", b, k.what, at, err)
		}
		size, err := k.size(b[at:])
		if fault.Err == api.OK && err != api.OK {
			fault, rest = api.Fault{Err: err, At: at}, 0
		}
		if fault.Err != api.OK {
			want = append(want, k.zero...)
			continue
		}
		want = append(want, b[at:at+size]...)
		at, rest = at+size, rest-size
	}
	if fault.Err == api.OK && rest > 0 {
		fault = api.Fault{Err: api.ErrLong, At: at}
	}
	for range 2 {
		if gotRest, got := r.Rest(), r.End(); gotRest != rest || got != fault {
			t.Fatalf("%.40x: Rest: %d, not %d; End: %v, not %v", b, gotRest, rest, got, fault)
		}
	}
	checkDone(t, "read and written again", w, want)
}

// checkFault reports whether reading gives that fault of b, at every place: behind other elements as well.
func checkFault(t *testing.T, b []byte, k kind, err api.Errno) {
	t.Helper()
	for before := range 4 {
		all := join(bytes.Repeat(formOf(300), before), b)
		r, w := wire.NewReader(all), newWriter(t, 100)
		for range before {
			if n := r.Num(); n != 300 {
				t.Errorf("%.40x: Num: %d", all, n)
			}
		}
		k.again(r, w)
		checkDone(t, k.what, w, k.zero)
		checkAfterFault(t, k.what, r, api.Fault{Err: err, At: 3 * before})
	}
}

// checkAfterFault reports whether r has that fault, and every call returns zero.
func checkAfterFault(t *testing.T, what string, r *wire.Reader, fault api.Fault) {
	t.Helper()
	for range 2 {
		if f := r.End(); f != fault {
			t.Errorf("%s: End: %v, not %v", what, f, fault)
		}
		for _, k := range kinds() {
			w := newWriter(t, 100)
			k.again(r, w)
			checkDone(t, k.what+" after "+what, w, k.zero)
		}
		if n := r.Rest(); n != 0 {
			t.Errorf("%s: Rest: %d", what, n)
		}
	}
}

// P4.2

func TestReadElements(t *testing.T) {
	r := wire.NewReader(unhex("00 01ff 020100 087fffffffffffffff 01026162 00 0103000102 00 0000000000000001 ffffffffffffffff 3ff0000000000000 8000000000000000 7ff8000000000000 01 00 6b00ff01" + strings.Repeat("ab", 32)))
	if n := r.Num(); n != 0 {
		t.Errorf("Num: %d", n)
	}
	if n := r.Num(); n != 255 {
		t.Errorf("Num: %d", n)
	}
	if n := r.Num(); n != 256 {
		t.Errorf("Num: %d", n)
	}
	if n := r.Num(); n != maxInt {
		t.Errorf("Num: %d", n)
	}
	if s := r.Text(2); s != "ab" {
		t.Errorf("Text: %q", s)
	}
	if s := r.Text(0); s != "" {
		t.Errorf("Text: %q", s)
	}
	if b := r.Bytes(3); !bytes.Equal(b, []byte{0, 1, 2}) {
		t.Errorf("Bytes: %x", b)
	}
	if b := r.Bytes(-1); len(b) > 0 {
		t.Errorf("Bytes: %x", b)
	}
	if n := r.Word(); n != 1 {
		t.Errorf("Word: %x", n)
	}
	if n := r.Word(); n != math.MaxUint64 {
		t.Errorf("Word: %x", n)
	}
	if x, minus, nan := r.Pace(), r.Pace(), r.Pace(); x != 1 || minus != 0 || !math.Signbit(minus) || !math.IsNaN(nan) {
		t.Errorf("Pace: %v, %v, %v", x, minus, nan)
	}
	if yes, no := r.Bool(), r.Bool(); !yes || no {
		t.Errorf("Bool: %v, %v", yes, no)
	}
	if k := r.Key(); k != someKey {
		t.Errorf("Key: %x", k)
	}
	if h := r.Hash(); h != api.Hash(bytes.Repeat([]byte{0xab}, 32)) {
		t.Errorf("Hash: %x", h)
	}
	if n, f := r.Rest(), r.End(); n != 0 || f != (api.Fault{}) {
		t.Errorf("Rest: %d; End: %v", n, f)
	}
}

func TestReadNum(t *testing.T) {
	for _, n := range numbers() {
		r := wire.NewReader(formOf(n))
		if got := r.Num(); got != n || r.End() != (api.Fault{}) {
			t.Errorf("Num of %x: %d, %v", formOf(n), got, r.End())
		}
	}
}

func TestFaultsOfNumbers(t *testing.T) {
	for _, r := range []struct {
		b   string
		err api.Errno
	}{
		{"", api.ErrShort}, {"01", api.ErrShort}, {"02 01", api.ErrShort}, {"08 01", api.ErrShort}, {"08 01 02 03 04 05 06 07", api.ErrShort},
		{"01 00", api.ErrForm}, {"02 00 01", api.ErrForm}, {"02 00 00", api.ErrForm}, {"03 00 ff ff", api.ErrForm}, {"08 00 ff ff ff ff ff ff ff", api.ErrForm}, {"01 00 05", api.ErrForm},
		{"08 80 00 00 00 00 00 00 00", api.ErrForm}, {"08 ff ff ff ff ff ff ff ff", api.ErrForm}, {"08 80 00 00 00 00 00 00 01 07", api.ErrForm},
		{"02 00", api.ErrShort}, {"08 00 00 00", api.ErrShort}, {"08 80 00 00 00 00 00 00", api.ErrShort}, // too few bytes ahead of what they are
	} {
		checkFault(t, unhex(r.b), numKind(), r.err)
		for _, most := range []int{-1, 0, 5, maxInt} {
			checkFault(t, unhex(r.b), textKind(most), r.err)
			checkFault(t, unhex(r.b), bytesKind(most), r.err)
		}
	}
	for first := 9; first < 256; first++ {
		for _, n := range []int{0, 1, first - 1, first, first + 1} {
			checkFault(t, append([]byte{byte(first)}, bytes.Repeat([]byte{1}, n)...), numKind(), api.ErrForm)
		}
	}
	for n := 1; n <= 8; n++ {
		noughts := append([]byte{byte(n)}, make([]byte, n)...)
		checkFault(t, noughts, numKind(), api.ErrForm)
		checkFault(t, noughts[:n], numKind(), api.ErrShort)
	}
}

func TestFaultsOfTexts(t *testing.T) {
	for _, r := range []struct {
		b    string
		most int
		err  api.Errno
	}{
		{"01 01 61", 0, api.ErrLong}, {"01 01 61", -1, api.ErrLong}, {"01 01 61", math.MinInt, api.ErrLong}, {"01 03 61 62 63", 2, api.ErrLong}, {"02 01 00", 255, api.ErrLong},
		{"01 03 61", 2, api.ErrLong}, {"01 03", 2, api.ErrLong}, {"01 01", -5, api.ErrLong}, {"08 7f ff ff ff ff ff ff ff", maxInt - 1, api.ErrLong}, // too long ahead of too few bytes
		{"01 03 61", 3, api.ErrShort}, {"01 03 61 62", maxInt, api.ErrShort}, {"01 01", 1, api.ErrShort}, {"02 01 00", 256, api.ErrShort}, {"08 7f ff ff ff ff ff ff ff 61 62", maxInt, api.ErrShort},
	} {
		checkFault(t, unhex(r.b), textKind(r.most), r.err)
		checkFault(t, unhex(r.b), bytesKind(r.most), r.err)
	}
}

// TestMost has texts of exactly most bytes, and of one more.
func TestMost(t *testing.T) {
	for _, n := range []int{0, 1, 2, 255, 256, 1000, 1 << 16} {
		s := string(sample(n))
		form := ofText(s).form
		for _, most := range []int{n, n + 1, maxInt} {
			r := wire.NewReader(form)
			if got := r.Text(most); got != s || r.End() != (api.Fault{}) {
				t.Errorf("Text(%d) of %d bytes: %d bytes, %v", most, n, len(got), r.End())
			}
			r = wire.NewReader(form)
			if got := r.Bytes(most); string(got) != s || r.End() != (api.Fault{}) {
				t.Errorf("Bytes(%d) of %d bytes: %d bytes, %v", most, n, len(got), r.End())
			}
		}
		if n > 0 {
			checkFault(t, form, textKind(n-1), api.ErrLong)
			checkFault(t, form, bytesKind(n-1), api.ErrLong)
		}
	}
	for _, most := range []int{-1, math.MinInt} { // these are as 0
		checkRead(t, []byte{0, 0, 7}, textKind(most), bytesKind(most))
	}
}

// TestFaultsOfFixed has too few bytes of every kind that has always as many.
func TestFaultsOfFixed(t *testing.T) {
	for _, k := range fixed() {
		full := len(k.zero)
		for n := range full {
			checkFault(t, make([]byte, n), k, api.ErrShort)
			checkFault(t, bytes.Repeat([]byte{0xff}, n), k, api.ErrShort)
		}
		checkRead(t, make([]byte, full), k)
		checkRead(t, bytes.Repeat([]byte{1}, full), k)
		checkRead(t, bytes.Repeat([]byte{1}, 3*full), k, k)
	}
}

func TestFaultsOfBools(t *testing.T) {
	for b := 2; b < 256; b++ {
		checkFault(t, []byte{byte(b)}, boolKind(), api.ErrForm)
		checkFault(t, []byte{byte(b), 1}, boolKind(), api.ErrForm)
	}
}

func TestFaultsOfPaces(t *testing.T) {
	for bit := range 52 {
		for _, sign := range []uint64{0, 1 << 63} {
			if n := 0x7FF0000000000000 | 1<<bit | sign; n != nanForm {
				checkFault(t, ofWord(n).form, paceKind(), api.ErrForm)
			}
		}
	}
	for _, n := range []uint64{nanForm - 1, nanForm + 1, nanForm | 1<<63, math.MaxInt64, math.MaxUint64} {
		checkFault(t, ofWord(n).form, paceKind(), api.ErrForm)
		checkFault(t, append(ofWord(n).form, 0), paceKind(), api.ErrForm)
	}
	for _, n := range []uint64{0, 1, 1 << 63, 0x7FEFFFFFFFFFFFFF, 0x7FF0000000000000, 0xFFF0000000000000, nanForm} {
		r := wire.NewReader(ofWord(n).form)
		if x := r.Pace(); pace.Bits(x) != n || r.End() != (api.Fault{}) {
			t.Errorf("Pace of %x: %x, %v", n, pace.Bits(x), r.End())
		}
	}
}

// TestFirstFaultStays has bytes with two faults, and elements between and behind them that would be read well.
func TestFirstFaultStays(t *testing.T) {
	r := wire.NewReader(unhex("01 02 02 01 05 09"))
	if n, is := r.Num(), r.Bool(); n != 2 || is {
		t.Errorf("Num: %d; Bool: %v", n, is)
	}
	checkAfterFault(t, "a bool of 2", r, api.Fault{Err: api.ErrForm, At: 2})
	r = wire.NewReader(unhex("01 05 01 03 61 62 01 01"))
	if n, s := r.Num(), r.Text(2); n != 5 || s != "" {
		t.Errorf("Num: %d; Text: %q", n, s)
	}
	checkAfterFault(t, "a text of 3", r, api.Fault{Err: api.ErrLong, At: 2})
}

// TestReaderKeepsItsBytes changes the bytes after the reader was made, and looks at those after them.
func TestReaderKeepsItsBytes(t *testing.T) {
	b := unhex("01 07 01 02 61 62 01 02 63 64 01 09 05 05")
	r := wire.NewReader(b[:12])
	if n := r.Rest(); n != 12 {
		t.Errorf("Rest: %d", n)
	}
	clear(b)
	if n, s, c, m := r.Num(), r.Text(2), r.Bytes(2), r.Num(); n != 7 || s != "ab" || string(c) != "cd" || m != 9 {
		t.Errorf("%d, %q, %x, %d", n, s, c, m)
	}
	if n := r.Num(); n != 0 || r.End() != (api.Fault{Err: api.ErrShort, At: 12}) {
		t.Errorf("Num behind the bytes: %d, %v", n, r.End())
	}
	if !bytes.Equal(b, make([]byte, 14)) {
		t.Errorf("changed: %x", b)
	}
}

// TestBytesAreNew changes what Bytes returned, and what is behind it.
func TestBytesAreNew(t *testing.T) {
	all := unhex("01 02 61 62 01 02 63 64 00 01 02 65 66")
	b := bytes.Clone(all)
	r := wire.NewReader(b)
	for _, want := range []string{"ab", "cd", "", "ef"} {
		c := r.Bytes(2)
		if string(c) != want {
			t.Errorf("Bytes: %q, not %q", c, want)
		}
		for at := range c[:cap(c)] {
			c[:cap(c)][at] = 0xff
		}
	}
	if f := r.End(); f != (api.Fault{}) || !bytes.Equal(b, all) {
		t.Errorf("%v, %x", f, b)
	}
}

func TestReadersAreIndependent(t *testing.T) {
	b := unhex("01 07 02 01 08")
	one, other := wire.NewReader(b), wire.NewReader(b)
	if n := one.Num(); n != 7 || one.Rest() != 3 || other.Rest() != 5 {
		t.Errorf("Num: %d; Rest: %d, %d", n, one.Rest(), other.Rest())
	}
	one.Bool()
	if n := other.Num(); n != 7 || other.Rest() != 3 || one.End() != (api.Fault{Err: api.ErrForm, At: 2}) {
		t.Errorf("Num: %d; Rest: %d; End: %v", n, other.Rest(), one.End())
	}
}

func TestInvalidReaders(t *testing.T) {
	invalid := api.Fault{Err: api.ErrNil}
	checkAfterFault(t, "nil", nil, invalid)
	checkAfterFault(t, "zero", &wire.Reader{}, invalid)
	checkAfterFault(t, "new", new(wire.Reader), invalid)
	checkAfterFault(t, "of a list", &make([]wire.Reader, 2)[1], invalid)
	r := wire.NewReader(unhex("01 07 01 08 01"))
	r.Num()
	c := *r
	checkAfterFault(t, "copy", &c, invalid)
	other := wire.NewReader(nil)
	*other = *r
	checkAfterFault(t, "overwritten", other, invalid)
	if n := r.Num(); n != 8 || r.Rest() != 1 || r.End() != (api.Fault{Err: api.ErrLong, At: 4}) {
		t.Errorf("copied: Num: %d; Rest: %d; End: %v", n, r.Rest(), r.End())
	}
}

// P4.3

func TestRest(t *testing.T) {
	for _, n := range []int{0, 1, 7, 255, 1000} {
		r := wire.NewReader(make([]byte, n))
		for left := n; left > 0; left-- {
			if got := r.Rest(); got != left {
				t.Errorf("Rest of %d: %d", left, got)
			}
			if f := r.End(); f != (api.Fault{Err: api.ErrLong, At: n - left}) {
				t.Errorf("End before %d are left: %v", left, f)
			}
			r.Bool() // that End was asked for ends nothing
		}
		if got, f := r.Rest(), r.End(); got != 0 || f != (api.Fault{}) {
			t.Errorf("Rest of none: %d; End: %v", got, f)
		}
		r.Bool()
		if got, f := r.Rest(), r.End(); got != 0 || f != (api.Fault{Err: api.ErrShort, At: n}) {
			t.Errorf("Rest after a fault: %d; End: %v", got, f)
		}
	}
}

func TestEnd(t *testing.T) {
	for _, b := range [][]byte{nil, {}} {
		if f := wire.NewReader(b).End(); f != (api.Fault{}) {
			t.Errorf("of no bytes: %v", f)
		}
	}
	r := wire.NewReader(unhex("01 05 00"))
	if n, rest, f := r.Num(), r.Rest(), r.End(); n != 5 || rest != 1 || f != (api.Fault{Err: api.ErrLong, At: 2}) {
		t.Errorf("%d, %d, %v", n, rest, f)
	}
	if n, f := r.Num(), r.End(); n != 0 || f != (api.Fault{}) {
		t.Errorf("%d, %v", n, f)
	}
	r = wire.NewReader(unhex("01 05 02 01"))
	if r.Num(); r.Num() != 0 || r.End() != (api.Fault{Err: api.ErrShort, At: 2}) {
		t.Errorf("bytes are left behind a fault: %v", r.End())
	}
}

// P4.4

// kindOf returns the kind that e is of.
func kindOf(e element) kind {
	l := plain()
	at := slices.IndexFunc(l, func(k kind) bool { return strings.HasPrefix(e.what, k.what) })
	return l[at]
}

// short returns the elements of at most 1000 bytes.
func short() []element {
	return slices.DeleteFunc(elements(), func(e element) bool { return len(e.form) > 1000 })
}

// TestWhatIsWrittenIsRead writes and reads sequences of every kind of elements, also where the bytes end too early or go on.
func TestWhatIsWrittenIsRead(t *testing.T) {
	all := short()
	for seed := range uint64(3000) {
		w, again := newWriter(t, api.MaxWire), newWriter(t, api.MaxWire)
		var read []kind
		for turn := range seed % 12 {
			e := all[mix(seed<<8+turn)%uint64(len(all))]
			e.write(w)
			read = append(read, kindOf(e))
		}
		b, err := w.Done()
		if err != api.OK {
			t.Fatal(err)
		}
		r := wire.NewReader(b)
		for _, k := range read {
			k.again(r, again)
		}
		if n, f := r.Rest(), r.End(); n != 0 || f != (api.Fault{}) {
			t.Fatalf("%.40x: Rest: %d; End: %v", b, n, f)
		}
		checkDone(t, "again", again, b)
		checkRead(t, b[:mix(seed)%uint64(len(b)+1)], read...)
		checkRead(t, append(b, byte(seed)), read...)
	}
}

// TestEachIsReadAsItWas has each element alone: the values themselves, not their forms.
func TestEachIsReadAsItWas(t *testing.T) {
	for _, n := range numbers() {
		w := newWriter(t, 100)
		w.Num(n)
		w.Word(^uint64(n))
		w.Bytes(sample(n % 50))
		w.Text(string(sample(n % 37)))
		b, _ := w.Done()
		r := wire.NewReader(b)
		if m, word := r.Num(), r.Word(); m != n || word != ^uint64(n) {
			t.Errorf("%d, %x, not %d, %x", m, word, n, ^uint64(n))
		}
		if c, s := r.Bytes(49), r.Text(36); !bytes.Equal(c, sample(n%50)) || s != string(sample(n%37)) {
			t.Errorf("%x, %q", c, s)
		}
		if f := r.End(); f != (api.Fault{}) {
			t.Errorf("%d: %v", n, f)
		}
	}
}

// TestAnyBytesOfTwoKinds reads all bytes up to three of these as elements of every two kinds.
func TestAnyBytesOfTwoKinds(t *testing.T) {
	texts := []string{""}
	const from = "\x00\x01\x02\x03\x08\x09a\x7f\x80\xff"
	for at := 0; len(texts[at]) < 3; at++ {
		for i := range len(from) {
			texts = append(texts, texts[at]+from[i:i+1])
		}
	}
	for _, one := range kinds() {
		for _, other := range kinds() {
			for _, s := range texts {
				checkRead(t, []byte(s), one, other)
			}
		}
	}
}

// TestAnyBytesOfManyKinds reads bytes without a visible pattern, most of them small, as elements of every kind.
func TestAnyBytesOfManyKinds(t *testing.T) {
	l := kinds()
	for seed := range uint64(60000) {
		b := make([]byte, mix(seed)%60)
		for at := range b {
			x := mix(seed<<8 + uint64(at))
			b[at] = byte(x >> 8)
			if x%4 > 0 {
				b[at] %= 4
			}
		}
		var read []kind
		for turn := range seed % 6 {
			read = append(read, l[mix(seed<<8+200+turn)%uint64(len(l))])
		}
		checkRead(t, b, read...)
	}
}

// TestChangedBytes changes one byte of what was written: what is read without a fault is written as those bytes again.
func TestChangedBytes(t *testing.T) {
	read := append([]kind{numKind(), textKind(300)}, append(fixed(), bytesKind(300), numKind())...)
	whole := join(formOf(1<<40), ofText("sea").form, someHash[:], someKey[:], ofWord(7).form, ofWord(nanForm).form, []byte{1}, ofBytes(sample(260)).form, formOf(0))
	checkRead(t, whole, read...)
	for at := range whole {
		for x := range 256 {
			b := bytes.Clone(whole)
			b[at] = byte(x)
			checkRead(t, b, read...)
		}
		checkRead(t, whole[:at], read...)
		checkRead(t, join(whole[:at], whole[at+1:]), read...)
		checkRead(t, join(whole[:at], []byte{0}, whole[at:]), read...)
	}
}
