package vals_test

import (
	"bytes"
	"encoding/hex"
	"math/big"
	"slices"
	"strings"
	"testing"

	"landfall/api"
	"landfall/blake"
	"landfall/vals"
)

// unhex returns the bytes that s has in base 16, with blanks between them.
func unhex(s string) []byte {
	b, err := hex.DecodeString(strings.ReplaceAll(s, " ", ""))
	if err != nil {
		panic(err)
	}
	return b
}

// number returns the form of n, as the digits of a big number.
func number(n int) []byte {
	digits := big.NewInt(int64(n)).Bytes()
	return append([]byte{byte(len(digits))}, digits...)
}

// formOf returns the bytes of a set.
func formOf(l []api.Validator) []byte {
	b := number(len(l))
	for _, v := range l {
		b = append(append(b, v.Key[:]...), number(v.Power)...)
	}
	return b
}

// checkDecode reports whether b is the set want, or has that fault.
func checkDecode(t *testing.T, b []byte, want []api.Validator, fault api.Fault) {
	t.Helper()
	if l, f := vals.Decode(b); !slices.Equal(l, want) || f != fault {
		t.Errorf("Decode(% .60x): %v, %v, not %v, %v", b, l, f, want, fault)
	}
}

// checkFault reports whether the bytes that s has in base 16 have that fault.
func checkFault(t *testing.T, s string, err api.Errno, at int) {
	t.Helper()
	checkDecode(t, unhex(s), nil, api.Fault{Err: err, At: at})
}

// P5.2

func TestEncode(t *testing.T) {
	for _, r := range []struct {
		l    []api.Validator
		want string
	}{
		{of(10, 5), "01 01 0000000a 01 05"},
		{of(0, 1), "01 01 00000000 01 01"},
		{of(0xffffffff, api.MaxPower), "01 01 ffffffff 08 4000000000000000"},
		{of(0x01020304, 255, 0x01020305, 256), "01 02 01020304 01 ff 01020305 02 0100"},
		{of(1, 5, 2, 7, 3, 1<<32), "01 03 00000001 01 05 00000002 01 07 00000003 05 0100000000"},
	} {
		if b, err := vals.Encode(r.l); !bytes.Equal(b, unhex(r.want)) || err != api.OK {
			t.Errorf("%v: % x, %v", r.l, b, err)
		}
	}
	for at, l := range sets() {
		if b, err := vals.Encode(l); !bytes.Equal(b, formOf(l)) || err != api.OK {
			t.Errorf("set %d: % x, %v, not % x", at, b, err, formOf(l))
		}
	}
	if b, err := vals.Encode(most); len(b) != 2+64*13 || err != api.OK {
		t.Errorf("the longest: %d bytes, %v", len(b), err)
	}
}

func TestHash(t *testing.T) {
	for at, l := range sets() {
		if h, err := vals.Hash(l); h != blake.Sum(formOf(l)) || err != api.OK {
			t.Errorf("set %d: %x, %v", at, h, err)
		}
	}
	if h, err := vals.Hash(of(10, 5)); h != blake.Sum(unhex("01 01 0000000a 01 05")) || err != api.OK {
		t.Errorf("%x, %v", h, err)
	}
}

func TestWrongSetsHaveNoBytes(t *testing.T) {
	for at, r := range wrongs() {
		if b, err := vals.Encode(r.l); len(b) > 0 || err != r.err {
			t.Errorf("wrong %d: %v: % x, %v, not %v", at, r.l, b, err, r.err)
		}
		if h, err := vals.Hash(r.l); h != (api.Hash{}) || err != r.err {
			t.Errorf("wrong %d: %v: %x, %v, not %v", at, r.l, h, err, r.err)
		}
	}
}

func TestDecode(t *testing.T) {
	checkDecode(t, unhex("01 01 0000000a 01 05"), of(10, 5), api.Fault{})
	checkDecode(t, unhex("01 02 01020304 01 ff 01020305 02 0100"), of(0x01020304, 255, 0x01020305, 256), api.Fault{})
	for _, l := range sets() {
		checkDecode(t, formOf(l), l, api.Fault{})
	}
}

// TestDecodeOfFaultyItems has a fault of the reader in every item: in the number, in the first key and power, and in the last ones.
func TestDecodeOfFaultyItems(t *testing.T) {
	checkFault(t, "", api.ErrShort, 0)
	checkFault(t, "01", api.ErrShort, 0)
	checkFault(t, "02 01", api.ErrShort, 0)
	checkFault(t, "09", api.ErrForm, 0)
	checkFault(t, "ff 01 0000000a 01 05", api.ErrForm, 0)
	checkFault(t, "01 00", api.ErrForm, 0)
	checkFault(t, "02 0001 0000000a 01 05", api.ErrForm, 0)
	checkFault(t, "08 8000000000000000", api.ErrForm, 0)
	checkFault(t, "01 01", api.ErrShort, 2)
	checkFault(t, "01 01 000000", api.ErrShort, 2)
	checkFault(t, "01 01 0000000a", api.ErrShort, 6)
	checkFault(t, "01 01 0000000a 01", api.ErrShort, 6)
	checkFault(t, "01 01 0000000a 02 05", api.ErrShort, 6)
	checkFault(t, "01 01 0000000a 09", api.ErrForm, 6)
	checkFault(t, "01 01 0000000a 01 00", api.ErrForm, 6)
	checkFault(t, "01 01 0000000a 02 0005", api.ErrForm, 6)
	checkFault(t, "01 01 0000000a 08 8000000000000000", api.ErrForm, 6)
	checkFault(t, "01 02 0000000a 01 05", api.ErrShort, 8)
	checkFault(t, "01 02 0000000a 01 05 0000", api.ErrShort, 8)
	checkFault(t, "01 02 0000000a 01 05 0000000b", api.ErrShort, 12)
	checkFault(t, "01 02 0000000a 01 05 0000000b ff", api.ErrForm, 12)
	checkFault(t, "01 03 0000000a 02 0100 0000000b 09 0000000c 01 00", api.ErrForm, 13)
}

func TestDecodeOfTooMany(t *testing.T) {
	checkFault(t, "01 41", api.ErrLong, 0)
	checkFault(t, "01 ff", api.ErrLong, 0)
	checkFault(t, "02 0100", api.ErrLong, 0)
	checkFault(t, "08 7fffffffffffffff", api.ErrLong, 0)
	checkFault(t, "01 41 0000000a 09", api.ErrLong, 0)
	for _, n := range []int{65, 66, 256, 1000} {
		checkDecode(t, formOf(row(1, n, 1)), nil, api.Fault{Err: api.ErrLong})
	}
	checkFault(t, "01 40", api.ErrShort, 2)
}

func TestDecodeOfBytesThatAreLeft(t *testing.T) {
	for _, l := range sets() {
		b := formOf(l)
		checkDecode(t, append(bytes.Clone(b), 0), nil, api.Fault{Err: api.ErrLong, At: len(b)})
		checkDecode(t, append(bytes.Clone(b), b...), nil, api.Fault{Err: api.ErrLong, At: len(b)})
	}
}

// TestDecodeOfWrongSets has bytes without a fault of their own, of a list that is not a valid set.
func TestDecodeOfWrongSets(t *testing.T) {
	checkFault(t, "00", api.ErrShort, 0)
	checkFault(t, "01 01 0000000a 00", api.ErrRange, 0)
	checkFault(t, "01 01 0000000a 08 4000000000000001", api.ErrRange, 0)
	checkFault(t, "01 01 0000000a 08 7fffffffffffffff", api.ErrRange, 0)
	checkFault(t, "01 02 0000000a 01 05 0000000a 01 05", api.ErrOrder, 0)
	checkFault(t, "01 02 0000000b 01 05 0000000a 01 05", api.ErrOrder, 0)
	checkFault(t, "01 02 0000000b 00 0000000a 01 05", api.ErrRange, 0)
	checkFault(t, "01 02 0000000b 01 05 0000000a 00", api.ErrOrder, 0)
	for _, r := range wrongs() {
		if !slices.ContainsFunc(r.l, func(v api.Validator) bool { return v.Power < 0 }) {
			checkDecode(t, formOf(r.l), nil, api.Fault{Err: r.err})
		}
	}
}

// TestDecodeNamesTheFirstFault: what is wrong with the set comes after every item, and after bytes that are left.
func TestDecodeNamesTheFirstFault(t *testing.T) {
	checkFault(t, "00 00", api.ErrLong, 1)
	checkFault(t, "01 01 0000000a 00 00", api.ErrLong, 7)
	checkFault(t, "01 02 0000000a 01 05 0000000a 01 05 01", api.ErrLong, 14)
	checkFault(t, "01 02 0000000a 00 00000009 09", api.ErrForm, 11)
	checkFault(t, "01 03 0000000a 00 00000009 00", api.ErrShort, 12)
	checkFault(t, "01 02 0000000a 09 00000009", api.ErrForm, 6)
}

func TestDecodeLeavesItsBytes(t *testing.T) {
	for _, set := range sets() {
		b := append(formOf(set), 1, 2, 3)
		n := len(b) - 3
		l, f := vals.Decode(b[:n])
		if !bytes.Equal(b, append(formOf(set), 1, 2, 3)) {
			t.Errorf("%v: changed: % x", set, b)
		}
		clear(b)
		if !slices.Equal(l, set) || f != (api.Fault{}) {
			t.Errorf("%v: after its bytes were changed: %v, %v", set, l, f)
		}
	}
}

// P5.5

// checkBytes reports whether b is the bytes of what it is decoded as, if there is no fault; and whether nothing is beside a fault.
func checkBytes(t *testing.T, b []byte) {
	t.Helper()
	l, f := vals.Decode(b)
	if f != (api.Fault{}) {
		if len(l) > 0 || f.Err == api.OK || f.At < 0 || f.At > len(b) {
			t.Errorf("% .60x: %v, %v", b, l, f)
		}
		return
	}
	if again, err := vals.Encode(l); !bytes.Equal(again, b) || err != api.OK {
		t.Errorf("% .60x: %v, %v: % .60x", b, l, err, again)
	}
}

func TestWhatIsEncodedIsDecoded(t *testing.T) {
	check := func(l []api.Validator) {
		b, err := vals.Encode(l)
		if err != api.OK {
			t.Errorf("%v: %v", l, err)
		}
		checkDecode(t, b, l, api.Fault{})
	}
	for _, l := range sets() {
		check(l)
	}
	for seed := range uint64(2000) {
		check(sample(1+int(mix(seed)%64), 1000+seed))
	}
}

// TestNothingElseIsDecoded changes each byte of a set's bytes, leaves it out, puts one ahead of it, and ends there.
func TestNothingElseIsDecoded(t *testing.T) {
	for _, l := range [][]api.Validator{of(10, 5), of(1, 5, 2, 7), of(0, 1, 0x00ffffff, 255, 0x01000000, 256, 0xffffffff, api.MaxPower)} {
		whole := formOf(l)
		for at := range whole {
			for x := range 256 {
				b := bytes.Clone(whole)
				b[at] = byte(x)
				checkBytes(t, b)
				checkBytes(t, slices.Insert(bytes.Clone(whole), at, byte(x)))
			}
			checkBytes(t, slices.Delete(bytes.Clone(whole), at, at+1))
			if l, f := vals.Decode(whole[:at]); len(l) > 0 || f.Err != api.ErrShort {
				t.Errorf("% x: %v, %v", whole[:at], l, f)
			}
		}
	}
}

// TestAnyBytes decodes bytes without a visible pattern that look like a set's, and all short ones of a few bytes.
func TestAnyBytes(t *testing.T) {
	texts := []string{""}
	const from = "\x00\x01\x02\x08\x09\x40\x41\xff"
	for at := 0; len(texts[at]) < 5; at++ {
		for i := range len(from) {
			texts = append(texts, texts[at]+from[i:i+1])
		}
	}
	for _, s := range texts {
		checkBytes(t, []byte(s))
	}
	for seed := range uint64(100000) {
		b := []byte{1, byte(mix(seed) % 5)}
		for turn := range mix(seed) % 8 {
			x := mix(seed<<8 + turn)
			b = append(b, 0, 0, 0, byte(4*turn+x%7), 1+byte(x>>8%8)/7, byte(x>>16%4))
		}
		checkBytes(t, b)
	}
}

// TestSetsHaveDifferentHashes has sets that differ from each other by little.
func TestSetsHaveDifferentHashes(t *testing.T) {
	seen := map[api.Hash][]api.Validator{}
	for _, l := range [][]api.Validator{of(1, 1), of(2, 1), of(1, 2), of(1, 1, 2, 1), of(1, 2, 2, 1), of(1, 1, 2, 2), of(1, 256), of(1, 257), of(0x01000000, 1), of(0x00010000, 1)} {
		h, err := vals.Hash(l)
		if other, is := seen[h]; is || err != api.OK {
			t.Errorf("%v, %v: %x, %v", l, other, h, err)
		}
		seen[h] = l
	}
}
