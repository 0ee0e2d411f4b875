package wire_test

import (
	"bytes"
	"encoding/hex"
	"math"
	"math/big"
	"strconv"
	"strings"
	"testing"

	"landfall/api"
	"landfall/wire"
)

const (
	maxInt  = math.MaxInt
	nanForm = uint64(0x7FF8000000000000)
)

var (
	someHash = api.Hash{0: 1, 1: 2, 15: 0x80, 30: 0xfe, 31: 0xff}
	someKey  = api.Key{'k', 0, 0xff, 1}
)

// mix returns the next number of a fixed sequence without a visible pattern.
func mix(x uint64) uint64 {
	x += 0x9e3779b97f4a7c15
	x = (x ^ x>>30) * 0xbf58476d1ce4e5b9
	x = (x ^ x>>27) * 0x94d049bb133111eb
	return x ^ x>>31
}

// sample returns n bytes without a short period.
func sample(n int) []byte {
	b := make([]byte, n)
	for i := range b {
		b[i] = byte(mix(uint64(i)))
	}
	return b
}

// unhex returns the bytes that s has in base 16, with blanks between them.
func unhex(s string) []byte {
	b, err := hex.DecodeString(strings.ReplaceAll(s, " ", ""))
	if err != nil {
		panic(err)
	}
	return b
}

func join(parts ...[]byte) []byte {
	return bytes.Join(parts, nil)
}

// numbers returns numbers at the edges of every length, and some between them.
func numbers() []int {
	l := []int{0, 1, 2, 9, 10, 127, 128, 254, 255, 256, 257, 300, maxInt - 1, maxInt}
	for bit := range 63 {
		l = append(l, 1<<bit-1, 1<<bit, 1<<bit+1, int(mix(uint64(bit))>>1>>bit))
	}
	return l
}

// formOf returns the form of n, as the digits of a big number.
func formOf(n int) []byte {
	digits := big.NewInt(int64(n)).Bytes()
	return append([]byte{byte(len(digits))}, digits...)
}

func newWriter(t *testing.T, limit int) *wire.Writer {
	t.Helper()
	w, err := wire.NewWriter(limit)
	if w == nil || err != api.OK {
		t.Fatalf("NewWriter(%d): %v, %v", limit, w, err)
	}
	return w
}

// checkDone reports whether w has exactly the bytes of want.
func checkDone(t *testing.T, what string, w *wire.Writer, want []byte) {
	t.Helper()
	if b, err := w.Done(); !bytes.Equal(b, want) || err != api.OK {
		t.Errorf("%s: Done: %d bytes, %.40x, %v, not %d, %.40x", what, len(b), b, err, len(want), want)
	}
}

// checkError reports whether every call of w returns err.
func checkError(t *testing.T, what string, w *wire.Writer, err api.Errno) {
	t.Helper()
	for range 2 {
		for at, got := range []api.Errno{w.Num(0), w.Num(-1), w.Num(maxInt), w.Text(""), w.Text("ab"), w.Bytes(nil), w.Bytes(sample(300)), w.Hash(someHash), w.Key(someKey), w.Word(1), w.Pace(1), w.Bool(true), w.Bool(false)} {
			if got != err {
				t.Errorf("%s: call %d: %v, not %v", what, at, got, err)
			}
		}
		if b, got := w.Done(); len(b) > 0 || got != err {
			t.Errorf("%s: Done: %x, %v, not %v", what, b, got, err)
		}
	}
}

// element is how something is written, and its form.
type element struct {
	what  string
	write func(*wire.Writer) api.Errno
	form  []byte
}

func ofNum(n int) element {
	return element{"Num " + big.NewInt(int64(n)).String(), func(w *wire.Writer) api.Errno { return w.Num(n) }, formOf(n)}
}

func ofText(s string) element {
	return element{"Text of " + strconv.Quote(s[:min(9, len(s))]), func(w *wire.Writer) api.Errno { return w.Text(s) }, append(formOf(len(s)), s...)}
}

func ofBytes(b []byte) element {
	return element{"Bytes of " + hex.EncodeToString(b[:min(9, len(b))]), func(w *wire.Writer) api.Errno { return w.Bytes(b) }, append(formOf(len(b)), b...)}
}

func ofHash(h api.Hash) element {
	return element{"Hash", func(w *wire.Writer) api.Errno { return w.Hash(h) }, h[:]}
}

func ofKey(k api.Key) element {
	return element{"Key", func(w *wire.Writer) api.Errno { return w.Key(k) }, k[:]}
}

func ofWord(n uint64) element {
	return element{"Word", func(w *wire.Writer) api.Errno { return w.Word(n) }, new(big.Int).SetUint64(n).FillBytes(make([]byte, 8))}
}

// ofPace has the form of x apart from it, so that every NaN can have the one that all of them have.
func ofPace(x float64, form uint64) element {
	return element{"Pace", func(w *wire.Writer) api.Errno { return w.Pace(x) }, ofWord(form).form}
}

func ofBool(is bool) element {
	return element{"Bool", func(w *wire.Writer) api.Errno { return w.Bool(is) }, map[bool][]byte{false: {0}, true: {1}}[is]}
}

// elements returns some of each kind, the edges of each among them.
func elements() []element {
	l := []element{ofBool(false), ofBool(true), ofHash(api.Hash{}), ofHash(someHash), ofKey(api.Key{}), ofKey(someKey)}
	for _, n := range numbers() {
		l = append(l, ofNum(n), ofWord(uint64(n)), ofWord(^uint64(n)))
	}
	for _, n := range []int{0, 1, 2, 127, 128, 255, 256, 257, 1000, 1<<16 - 1, 1 << 16, 1<<16 + 1} {
		l = append(l, ofBytes(sample(n)), ofText(string(sample(n))), ofText(strings.Repeat("é", n)))
	}
	l = append(l, ofBytes(nil), ofText("\x00"), ofText("ab"), ofText("\xff\xfe"), ofText("日本"))
	for _, x := range []float64{0, 1, -1, 0.125, math.Inf(1), math.Inf(-1), math.MaxFloat64, math.SmallestNonzeroFloat64, math.Copysign(0, -1)} {
		l = append(l, ofPace(x, math.Float64bits(x)))
	}
	for _, nan := range []uint64{nanForm, nanForm + 1, nanForm - 1, nanForm | 1<<63, math.MaxUint64} {
		l = append(l, ofPace(math.Float64frombits(nan), nanForm))
	}
	return l
}

// P4.1

func TestNewWriter(t *testing.T) {
	for _, limit := range []int{-1, -2, math.MinInt, api.MaxWire + 1, api.MaxWire * 2, maxInt} {
		if w, err := wire.NewWriter(limit); w != nil || err != api.ErrRange {
			t.Errorf("NewWriter(%d): %v, %v", limit, w, err)
		}
	}
	for _, limit := range []int{0, 1, 2, 100, api.MaxWire - 1, api.MaxWire} {
		w := newWriter(t, limit)
		checkDone(t, "new", w, nil)
		if other := newWriter(t, limit); other == w {
			t.Errorf("NewWriter(%d): the same writer again", limit)
		}
	}
}

func TestForms(t *testing.T) {
	for _, r := range []struct {
		e    element
		want string
	}{
		{ofNum(0), "00"}, {ofNum(1), "01 01"}, {ofNum(255), "01 ff"}, {ofNum(256), "02 01 00"}, {ofNum(1<<16 - 1), "02 ff ff"}, {ofNum(1 << 16), "03 01 00 00"},
		{ofNum(1<<56 - 1), "07 ff ff ff ff ff ff ff"}, {ofNum(1 << 56), "08 01 00 00 00 00 00 00 00"}, {ofNum(maxInt), "08 7f ff ff ff ff ff ff ff"}, {ofNum(0x0102030405060708), "08 01 02 03 04 05 06 07 08"},
		{ofText(""), "00"}, {ofText("ab"), "01 02 61 62"}, {ofText("é"), "01 02 c3 a9"}, {ofText("\xff"), "01 01 ff"}, {ofBytes(nil), "00"}, {ofBytes([]byte{}), "00"}, {ofBytes([]byte{0}), "01 01 00"},
		{ofWord(0), "00 00 00 00 00 00 00 00"}, {ofWord(1), "00 00 00 00 00 00 00 01"}, {ofWord(math.MaxUint64), "ff ff ff ff ff ff ff ff"}, {ofWord(0x0102030405060708), "01 02 03 04 05 06 07 08"},
		{ofPace(1, 0), "3f f0 00 00 00 00 00 00"}, {ofPace(math.Copysign(0, -1), 0), "80 00 00 00 00 00 00 00"}, {ofPace(math.NaN(), 0), "7f f8 00 00 00 00 00 00"}, {ofPace(math.Float64frombits(math.MaxUint64), 0), "7f f8 00 00 00 00 00 00"},
		{ofBool(false), "00"}, {ofBool(true), "01"}, {ofKey(api.Key{1, 2, 3, 4}), "01 02 03 04"}, {ofHash(api.Hash{0: 1, 31: 2}), "01" + strings.Repeat("00", 30) + "02"},
	} {
		w := newWriter(t, 100)
		if err := r.e.write(w); err != api.OK {
			t.Errorf("%s: %v", r.e.what, err)
		}
		checkDone(t, r.e.what, w, unhex(r.want))
	}
}

// TestExample has the calls of the chapter's first example.
func TestExample(t *testing.T) {
	w := newWriter(t, 100)
	for _, e := range []element{ofNum(0), ofNum(255), ofNum(256), ofText("ab"), ofWord(1), ofBool(true)} {
		if err := e.write(w); err != api.OK {
			t.Errorf("%s: %v", e.what, err)
		}
	}
	checkDone(t, "example", w, unhex("00 01ff 020100 01026162 0000000000000001 01"))
}

func TestElementsAreAppended(t *testing.T) {
	w := newWriter(t, api.MaxWire)
	var want []byte
	for _, e := range elements() {
		if err := e.write(w); err != api.OK {
			t.Fatalf("%s: %v", e.what, err)
		}
		want = append(want, e.form...)
	}
	checkDone(t, "all", w, want)
}

// TestElementsAtTheLimit has limits that an element just fits, alone and after others, and those that it passes by one byte.
func TestElementsAtTheLimit(t *testing.T) {
	for _, e := range elements() {
		for _, before := range []int{0, 1, 7, 300} {
			limit := before + len(e.form)
			w := newWriter(t, limit)
			for range before {
				w.Bool(true)
			}
			if err := e.write(w); err != api.OK {
				t.Errorf("%s, of a limit of %d: %v", e.what, limit, err)
			}
			checkDone(t, e.what, w, join(bytes.Repeat([]byte{1}, before), e.form))
			w = newWriter(t, limit-1)
			for range before {
				w.Bool(true)
			}
			if err := e.write(w); err != api.ErrLong {
				t.Errorf("%s, of a limit of %d: %v", e.what, limit-1, err)
			}
			checkError(t, e.what, w, api.ErrLong)
		}
	}
}

func TestLimitOfNought(t *testing.T) {
	for _, e := range elements() {
		w := newWriter(t, 0)
		if err := e.write(w); err != api.ErrLong {
			t.Errorf("%s: %v", e.what, err)
		}
		checkError(t, e.what, w, api.ErrLong)
	}
}

func TestGreatestLimit(t *testing.T) {
	const most = api.MaxWire - 4 // the number of so many bytes takes four
	b := sample(most + 1)
	for _, e := range []element{ofBytes(b[:most]), ofText(string(b[:most]))} {
		w := newWriter(t, api.MaxWire)
		if err := e.write(w); err != api.OK {
			t.Errorf("%s: %v", e.what, err)
		}
		checkDone(t, e.what, w, e.form)
		if err := w.Bool(false); err != api.ErrLong {
			t.Errorf("%s, one more byte: %v", e.what, err)
		}
	}
	for _, e := range []element{ofBytes(b), ofText(string(b)), ofBytes(make([]byte, 1<<22)), ofText(strings.Repeat("a", 1<<22))} {
		w := newWriter(t, api.MaxWire)
		if err := e.write(w); err != api.ErrLong {
			t.Errorf("%s: %v", e.what, err)
		}
	}
	w := newWriter(t, api.MaxWire)
	for range api.MaxWire / 32 {
		w.Hash(someHash)
	}
	checkDone(t, "hashes", w, bytes.Repeat(someHash[:], api.MaxWire/32))
	checkError(t, "hashes, and more", w, api.ErrLong)
}

func TestNumbersBelowNought(t *testing.T) {
	for _, n := range []int{-1, -2, -255, -256, math.MinInt + 1, math.MinInt} {
		for _, limit := range []int{0, 1, 100} {
			w := newWriter(t, limit)
			if err := w.Num(n); err != api.ErrRange {
				t.Errorf("Num(%d), of a limit of %d: %v", n, limit, err)
			}
			checkError(t, "a number below 0", w, api.ErrRange)
		}
	}
}

// TestFirstErrorStays has the error of a full writer first, and then that of a number below 0, and the other way round.
func TestFirstErrorStays(t *testing.T) {
	w := newWriter(t, 2)
	if long, next := w.Num(256), w.Num(1); long != api.ErrLong || next != api.ErrLong {
		t.Errorf("Num(256), Num(1): %v, %v", long, next)
	}
	if below := w.Num(-1); below != api.ErrLong {
		t.Errorf("Num(-1): %v", below)
	}
	checkError(t, "too long", w, api.ErrLong)
	w = newWriter(t, 2)
	if below, next, long := w.Num(-1), w.Num(1), w.Num(256); below != api.ErrRange || next != api.ErrRange || long != api.ErrRange {
		t.Errorf("Num(-1), Num(1), Num(256): %v, %v, %v", below, next, long)
	}
	checkError(t, "below 0", w, api.ErrRange)
}

func TestDoneMayBeFollowedByMore(t *testing.T) {
	w := newWriter(t, api.MaxWire)
	var want []byte
	for _, e := range elements() {
		checkDone(t, "before "+e.what, w, want)
		checkDone(t, "again", w, want)
		if err := e.write(w); err != api.OK {
			t.Fatalf("%s: %v", e.what, err)
		}
		want = append(want, e.form...)
	}
}

// TestWhatDoneReturnsIsNew changes it, and what is behind it, and writes more.
func TestWhatDoneReturnsIsNew(t *testing.T) {
	w := newWriter(t, 1000)
	var want []byte
	for n := range 100 {
		b, err := w.Done()
		if err != api.OK {
			t.Fatal(err)
		}
		other, _ := w.Done()
		clear(b[:cap(b)])
		if !bytes.Equal(other, want) {
			t.Fatalf("after %d numbers: %x, not %x", n, other, want)
		}
		w.Num(n + 200)
		want = append(want, formOf(n+200)...)
		if len(b) > 0 && b[0] != 0 || len(other) > 0 && !bytes.Equal(other, want[:len(other)]) {
			t.Fatalf("a number is written into what was returned: %x, %x", b, other)
		}
		for at := range b[:cap(b)] {
			if b[:cap(b)][at] != 0 {
				t.Fatalf("a number is written behind what was returned: %x", b[:cap(b)])
			}
		}
		checkDone(t, "after it was changed", w, want)
	}
}

// TestWrittenBytesStayAsTheyAre looks at the spare capacity as well, and changes them afterwards.
func TestWrittenBytesStayAsTheyAre(t *testing.T) {
	for _, n := range []int{0, 1, 5, 255, 256, 1000} {
		b := sample(n + 50)
		w := newWriter(t, 3000)
		w.Bytes(b[:n])
		w.Bytes(b[:n])
		if !bytes.Equal(b, sample(n+50)) {
			t.Errorf("%d bytes, or those after them, are changed", n)
		}
		clear(b)
		checkDone(t, "changed bytes", w, join(ofBytes(sample(n)).form, ofBytes(sample(n)).form))
	}
}

func TestWritersAreIndependent(t *testing.T) {
	a, b := newWriter(t, 1000), newWriter(t, 1000)
	var inA, inB []byte
	for n := range 200 {
		a.Num(n)
		b.Num(1000 - n)
		inA, inB = append(inA, formOf(n)...), append(inB, formOf(1000-n)...)
		checkDone(t, "one", a, inA)
		checkDone(t, "the other", b, inB)
	}
	a.Num(-1)
	checkError(t, "one", a, api.ErrRange)
	checkDone(t, "the other", b, inB)
}

func TestInvalidWriters(t *testing.T) {
	checkError(t, "nil", nil, api.ErrNil)
	checkError(t, "zero", &wire.Writer{}, api.ErrNil)
	checkError(t, "new", new(wire.Writer), api.ErrNil)
	checkError(t, "of a list", &make([]wire.Writer, 2)[1], api.ErrNil)
}

// TestCopiedWritersAreInvalid has copies of a writer: NewWriter returned none of them, and nothing done to them reaches that writer.
func TestCopiedWritersAreInvalid(t *testing.T) {
	w := newWriter(t, 100)
	w.Num(7)
	c := *w
	checkError(t, "copy", &c, api.ErrNil)
	other := newWriter(t, 100)
	*other = *w
	checkError(t, "overwritten", other, api.ErrNil)
	w.Num(8)
	checkDone(t, "copied", w, unhex("01 07 01 08"))
}
