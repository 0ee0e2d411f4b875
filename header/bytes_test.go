package header_test

import (
	"bytes"
	"encoding/hex"
	"math/big"
	"slices"
	"strings"
	"testing"

	"landfall/api"
	"landfall/blake"
	"landfall/header"
)

// unhex returns the bytes that s has in base 16, with blanks between them.
func unhex(s string) []byte {
	b, err := hex.DecodeString(strings.ReplaceAll(s, " ", ""))
	if err != nil {
		panic(err)
	}
	return b
}

// number returns the form of n, as the digits of a big number.
func number(n int) []byte {
	digits := big.NewInt(int64(n)).Bytes()
	return append([]byte{byte(len(digits))}, digits...)
}

// formOf returns the encoding of a header; its height and time are not negative.
func formOf(h api.Header) []byte {
	b := append(number(len(h.Chain)), h.Chain...)
	b = append(append(b, number(h.Height)...), number(h.Time)...)
	return slices.Concat(b, h.Prev[:], h.Vals[:], h.Next[:], h.App[:])
}

// checkDecode reports whether b is the header want, or has that fault.
func checkDecode(t *testing.T, b []byte, want api.Header, fault api.Fault) {
	t.Helper()
	if h, f := header.Decode(b); h != want || f != fault {
		t.Errorf("Decode(% .60x): %v, %v, not %v, %v", b, h, f, want, fault)
	}
}

// checkFault reports whether the bytes that s has in base 16, followed by n times ff, have that fault.
func checkFault(t *testing.T, s string, n int, err api.Errno, at int) {
	t.Helper()
	checkDecode(t, append(unhex(s), bytes.Repeat([]byte{0xff}, n)...), api.Header{}, api.Fault{Err: err, At: at})
}

// P6.1

func TestEncode(t *testing.T) {
	noughts, row := strings.Repeat("00", 32), func(x string) string { return strings.Repeat(x, 32) }
	for _, r := range []struct {
		h    api.Header
		want string
	}{
		{api.Header{Chain: "a", Height: 1, Time: 2}, "0101 61 0101 0102" + strings.Repeat(noughts, 4)},
		{api.Header{Chain: "a", Height: 1}, "0101 61 0101 00" + strings.Repeat(noughts, 4)},
		{api.Header{Chain: "a-9", Height: 256, Time: 255, Prev: api.Hash{1, 31: 2}}, "0103 612d39 020100 01ff 01" + strings.Repeat("00", 30) + "02" + strings.Repeat(noughts, 3)},
		{api.Header{Chain: "z", Height: api.MaxHeight, Time: api.MaxTime, Vals: api.Hash(unhex(row("11"))), App: api.Hash(unhex(row("22")))}, "0101 7a 0440000000 06010000000000" + noughts + row("11") + noughts + row("22")},
		{api.Header{Chain: "z", Height: 1, Time: 1, Next: api.Hash(unhex(row("33"))), Prev: api.Hash(unhex(row("44")))}, "0101 7a 0101 0101" + row("44") + noughts + row("33") + noughts},
	} {
		if b, err := header.Encode(r.h); !bytes.Equal(b, unhex(r.want)) || err != api.OK {
			t.Errorf("%v: % x, %v", r.h, b, err)
		}
	}
	for _, h := range headers() {
		if b, err := header.Encode(h); !bytes.Equal(b, formOf(h)) || err != api.OK {
			t.Errorf("%v: % x, %v, not % x", h, b, err, formOf(h))
		}
	}
}

func TestEncodeOfTheShortestAndTheLongest(t *testing.T) {
	for _, r := range []struct {
		h api.Header
		n int
	}{
		{api.Header{Chain: "a", Height: 1}, 134}, {api.Header{Chain: "a", Height: 1, Time: 2}, 135}, {numbered(strings.Repeat("z", 32), api.MaxHeight, api.MaxTime), 174},
	} {
		if b, err := header.Encode(r.h); len(b) != r.n || err != api.OK {
			t.Errorf("%v: %d bytes, %v", r.h, len(b), err)
		}
	}
}

// TestHash has hashes that another implementation of BLAKE2s gave, of encodings that were put together by hand.
func TestHash(t *testing.T) {
	var rising [4]api.Hash
	for at := range rising {
		for i := range rising[at] {
			rising[at][i] = byte(32*at + i)
		}
	}
	row := func(x byte) api.Hash { return api.Hash(bytes.Repeat([]byte{x}, 32)) }
	for _, r := range []struct {
		h    api.Header
		want string
	}{
		{api.Header{Chain: "a", Height: 1, Time: 2}, "aba2b07bc7a576138e2d0eb0c1d419e17118c33ee2ac8c2b58ffbf2686bab433"},
		{api.Header{Chain: "sea-9", Height: 300, Time: api.MaxTime, Prev: row(1), Vals: row(2), Next: row(3), App: row(4)}, "feb787addae03a975680395b8a3c8ef406512e95f64a188f33f6aeeddff6f675"},
		{api.Header{Chain: strings.Repeat("z", 32), Height: api.MaxHeight, Prev: rising[0], Vals: rising[1], Next: rising[2], App: rising[3]}, "cec68045bd46ac017cf4e22fd607aaf49c96cb5b4821e169f7ae08961a22f2a3"},
	} {
		if h, err := header.Hash(r.h); blake.Text(h) != r.want || err != api.OK {
			t.Errorf("%v: %x, %v", r.h, h, err)
		}
	}
	for _, r := range headers() {
		if h, err := header.Hash(r); h != blake.Sum(append([]byte("H"), formOf(r)...)) || err != api.OK {
			t.Errorf("%v: %x, %v", r, h, err)
		}
	}
}

func TestWrongHeadersHaveNoBytes(t *testing.T) {
	for _, r := range wrongs() {
		if b, err := header.Encode(r.h); len(b) > 0 || err != r.err {
			t.Errorf("%.60q, %d, %d: % x, %v, not %v", r.h.Chain, r.h.Height, r.h.Time, b, err, r.err)
		}
		if h, err := header.Hash(r.h); h != (api.Hash{}) || err != r.err {
			t.Errorf("%.60q, %d, %d: %x, %v, not %v", r.h.Chain, r.h.Height, r.h.Time, h, err, r.err)
		}
	}
}

// P6.2

func TestDecode(t *testing.T) {
	checkDecode(t, append(unhex("0101 61 0101 0102"), make([]byte, 128)...), api.Header{Chain: "a", Height: 1, Time: 2}, api.Fault{})
	checkDecode(t, append(unhex("0101 61 0101 00"), make([]byte, 128)...), api.Header{Chain: "a", Height: 1}, api.Fault{})
	for _, h := range headers() {
		checkDecode(t, formOf(h), h, api.Fault{})
	}
}

// TestDecodeOfFaultyElements has a fault of the reader in every element: in the name, the height, the time, and each of the hashes.
func TestDecodeOfFaultyElements(t *testing.T) {
	checkFault(t, "", 0, api.ErrShort, 0)
	checkFault(t, "01", 0, api.ErrShort, 0)
	checkFault(t, "0101", 0, api.ErrShort, 0)
	checkFault(t, "0103 6161", 0, api.ErrShort, 0)
	checkFault(t, "09", 200, api.ErrForm, 0)
	checkFault(t, "0100", 200, api.ErrForm, 0)
	checkFault(t, "020001 61", 200, api.ErrForm, 0)
	checkFault(t, "08 8000000000000000", 200, api.ErrForm, 0)
	checkFault(t, "0101 61", 0, api.ErrShort, 3)
	checkFault(t, "0101 61 01", 0, api.ErrShort, 3)
	checkFault(t, "0101 61 0300", 0, api.ErrShort, 3)
	checkFault(t, "0101 61 09", 200, api.ErrForm, 3)
	checkFault(t, "0101 61 0100", 200, api.ErrForm, 3)
	checkFault(t, "0101 61 020001", 200, api.ErrForm, 3)
	checkFault(t, "0101 61 08 8000000000000000", 200, api.ErrForm, 3)
	checkFault(t, "0103 612d39 0101", 0, api.ErrShort, 7)
	checkFault(t, "0103 612d39 0101 01", 0, api.ErrShort, 7)
	checkFault(t, "0103 612d39 0101 ff", 200, api.ErrForm, 7)
	checkFault(t, "0103 612d39 0101 0100", 200, api.ErrForm, 7)
	checkFault(t, "0103 612d39 0101 08 ffffffffffffffff", 200, api.ErrForm, 7)
	for at := range 4 {
		for n := range 32 {
			checkFault(t, "0101 61 0101 0102", 32*at+n, api.ErrShort, 7+32*at)
		}
	}
}

func TestDecodeOfTooLongNames(t *testing.T) {
	checkFault(t, "0121", 0, api.ErrLong, 0)
	checkFault(t, "01ff", 0, api.ErrLong, 0)
	checkFault(t, "020100", 1000, api.ErrLong, 0)
	checkFault(t, "08 7fffffffffffffff", 1000, api.ErrLong, 0)
	checkFault(t, "0120", 0, api.ErrShort, 0)
	for n := 33; n < 70; n++ {
		checkDecode(t, formOf(numbered(strings.Repeat("a", n), 7, 9)), api.Header{}, api.Fault{Err: api.ErrLong})
	}
}

func TestDecodeOfBytesThatAreLeft(t *testing.T) {
	for _, h := range headers() {
		b := formOf(h)
		checkDecode(t, append(bytes.Clone(b), 0), api.Header{}, api.Fault{Err: api.ErrLong, At: len(b)})
		checkDecode(t, append(bytes.Clone(b), b...), api.Header{}, api.Fault{Err: api.ErrLong, At: len(b)})
	}
}

// TestDecodeOfWrongHeaders has bytes without a fault of their own, of a header that is not valid; where the name is too long, that is its fault.
func TestDecodeOfWrongHeaders(t *testing.T) {
	checkFault(t, "0101 61 00 0102", 128, api.ErrRange, 0)
	checkFault(t, "0101 41 00 0102", 128, api.ErrForm, 0)
	checkFault(t, "00 0101 0102", 128, api.ErrForm, 0)
	checkFault(t, "0101 ff 0101 0102", 128, api.ErrForm, 0)
	checkFault(t, "0102 c3a9 0101 0102", 128, api.ErrForm, 0)
	checkFault(t, "0101 61 0440000001 0102", 128, api.ErrRange, 0)
	checkFault(t, "0101 61 087fffffffffffffff 0102", 128, api.ErrRange, 0)
	checkFault(t, "0101 61 0101 06010000000001", 128, api.ErrRange, 0)
	checkFault(t, "0101 61 0101 087fffffffffffffff", 128, api.ErrRange, 0)
	for _, r := range wrongs() {
		switch {
		case r.h.Height < 0 || r.h.Time < 0: // these have no form
		case len(r.h.Chain) > api.MaxName:
			checkDecode(t, formOf(r.h), api.Header{}, api.Fault{Err: api.ErrLong})
		default:
			checkDecode(t, formOf(r.h), api.Header{}, api.Fault{Err: r.err})
		}
	}
}

// TestDecodeNamesTheFirstFault: what is wrong with the header comes after every element, and after bytes that are left.
func TestDecodeNamesTheFirstFault(t *testing.T) {
	checkFault(t, "0101 41 09", 200, api.ErrForm, 3)
	checkFault(t, "00 0100 09", 200, api.ErrForm, 1)
	checkFault(t, "0101 61 00 0100", 200, api.ErrForm, 4)
	checkFault(t, "0101 61 00 0102", 127, api.ErrShort, 102)
	checkFault(t, "0101 41 00 0102", 129, api.ErrLong, 134)
	checkFault(t, "0101 61 0101 087fffffffffffffff", 129, api.ErrLong, 142)
	checkFault(t, "0101 61 0101 087fffffffffffffff", 31, api.ErrShort, 14)
	checkFault(t, "0121 61 09", 200, api.ErrLong, 0)
}

// TestDecodeLeavesItsBytes has something behind them in the spare capacity, which is neither read nor changed; and the header stays as it was after they are changed.
func TestDecodeLeavesItsBytes(t *testing.T) {
	for _, want := range headers() {
		b := append(formOf(want), 1, 2, 3)
		h, f := header.Decode(b[:len(b)-3])
		if !bytes.Equal(b, append(formOf(want), 1, 2, 3)) {
			t.Errorf("%v: changed: % x", want, b)
		}
		clear(b)
		if h != want || f != (api.Fault{}) {
			t.Errorf("%v: after its bytes were changed: %v, %v", want, h, f)
		}
	}
	b := formOf(headers()[0])
	if h, f := header.Decode(b[:134]); h != (api.Header{}) || f != (api.Fault{Err: api.ErrShort, At: 103}) {
		t.Errorf("%v, %v", h, f)
	}
}

// TestEncodingsAreNewMemory changes the bytes of one, up to its capacity, and looks at the next one.
func TestEncodingsAreNewMemory(t *testing.T) {
	h := numbered("sea", 7, 9)
	one, _ := header.Encode(h)
	other, _ := header.Encode(h)
	clear(one[:cap(one)])
	again, _ := header.Encode(h)
	if !bytes.Equal(other, formOf(h)) || !bytes.Equal(again, formOf(h)) {
		t.Errorf("% x, % x", other, again)
	}
}

// P6.3

// checkBytes reports whether b is the encoding of what it is decoded as, if there is no fault; and whether nothing is beside a fault.
func checkBytes(t *testing.T, b []byte) {
	t.Helper()
	h, f := header.Decode(b)
	if f != (api.Fault{}) {
		if h != (api.Header{}) || f.Err == api.OK || f.At < 0 || f.At > len(b) {
			t.Errorf("% .60x: %v, %v", b, h, f)
		}
		return
	}
	if again, err := header.Encode(h); !bytes.Equal(again, b) || err != api.OK {
		t.Errorf("% .60x: %v, %v: % .60x", b, h, err, again)
	}
}

// some returns a valid header without a visible pattern.
func some(seed uint64) api.Header {
	l := names()
	h := numbered(l[mix(seed)%uint64(len(l))], 1+int(mix(seed+1)>>(34+seed%30)), int(mix(seed+2)>>(24+seed%40)))
	h.Prev, h.Vals, h.Next, h.App = hashOf(4*seed), hashOf(4*seed+1), hashOf(4*seed+2), hashOf(4*seed+3)
	return h
}

func TestWhatIsEncodedIsDecoded(t *testing.T) {
	check := func(h api.Header) {
		b, err := header.Encode(h)
		if err != api.OK {
			t.Errorf("%v: %v", h, err)
		}
		checkDecode(t, b, h, api.Fault{})
	}
	for _, h := range headers() {
		check(h)
	}
	for seed := range uint64(2000) {
		check(some(seed))
	}
}

// TestNothingElseIsDecoded changes each byte of an encoding, leaves it out, puts one ahead of it, and ends there.
func TestNothingElseIsDecoded(t *testing.T) {
	for _, h := range []api.Header{{Chain: "a", Height: 1, Time: 2}, numbered("sea-1", 256, api.MaxTime), numbered(strings.Repeat("z", 32), api.MaxHeight, 0)} {
		whole := formOf(h)
		for at := range whole {
			for x := range 256 {
				b := bytes.Clone(whole)
				b[at] = byte(x)
				checkBytes(t, b)
				checkBytes(t, slices.Insert(bytes.Clone(whole), at, byte(x)))
				if got, f := header.Decode(b); f.Err == api.OK && (got == h) != bytes.Equal(b, whole) {
					t.Errorf("% x is %v too", b, h)
				}
			}
			checkBytes(t, slices.Delete(bytes.Clone(whole), at, at+1))
			if got, f := header.Decode(whole[:at]); got != (api.Header{}) || f.Err != api.ErrShort {
				t.Errorf("% x: %v, %v", whole[:at], got, f)
			}
		}
	}
}

// TestAnyBytes decodes bytes without a visible pattern that look like a header's.
func TestAnyBytes(t *testing.T) {
	for seed := range uint64(100000) {
		x := mix(seed)
		b := []byte{1, byte(x % 4)}
		for turn := range x >> 8 % 6 {
			b = append(b, "az-0A\x00"[mix(seed<<4+turn)%6])
		}
		b = append(b, byte(x>>16%3), byte(x>>24%3), byte(x>>32%3), byte(x>>40))
		checkBytes(t, append(b, make([]byte, 124+x>>48%8)...))
	}
}

// TestDifferentHeaders has headers that differ in little from one another: no two have the same encoding, or hash.
func TestDifferentHeaders(t *testing.T) {
	base := api.Header{Chain: "a", Height: 1, Time: 2}
	l := append(headers()[3:], base)
	for _, h := range []api.Header{{Chain: "a0"}, {Chain: "0a"}, {Chain: "aa"}, {Chain: "b"}} {
		l = append(l, api.Header{Chain: h.Chain, Height: 1, Time: 2})
	}
	l = append(l, api.Header{Chain: "a", Height: 2, Time: 2}, api.Header{Chain: "a", Height: 2, Time: 1}, api.Header{Chain: "a", Height: 1, Time: 1}, api.Header{Chain: "a", Height: 258, Time: 2}, api.Header{Chain: "a", Height: 1, Time: 258})
	for place := range 4 {
		for at := range 32 {
			for bit := range 8 {
				h := base
				[]*api.Hash{&h.Prev, &h.Vals, &h.Next, &h.App}[place][at] = 1 << bit
				l = append(l, h)
			}
		}
	}
	seen, forms, hashes := map[api.Header]bool{}, map[string]api.Header{}, map[api.Hash]api.Header{}
	for _, h := range l {
		if seen[h] {
			continue
		}
		seen[h] = true
		b, _ := header.Encode(h)
		hash, err := header.Hash(h)
		if other, is := forms[string(b)]; is || err != api.OK {
			t.Errorf("%v, %v: % x, %v", h, other, b, err)
		}
		if other, is := hashes[hash]; is {
			t.Errorf("%v, %v: %x", h, other, hash)
		}
		forms[string(b)], hashes[hash] = h, h
	}
}
