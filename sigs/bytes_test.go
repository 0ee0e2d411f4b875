package sigs_test

import (
	"bytes"
	"encoding/binary"
	"encoding/hex"
	"math/big"
	"slices"
	"strings"
	"testing"

	"landfall/api"
	"landfall/sigs"
)

// size is how many bytes a signature has in the encoding of a table.
const size = 4 + 32 + 8

// unhex returns the bytes that s has in base 16, with blanks between them.
func unhex(s string) []byte {
	b, err := hex.DecodeString(strings.ReplaceAll(s, " ", ""))
	if err != nil {
		panic(err)
	}
	return b
}

// number returns the form of n, as the digits of a big number.
func number(n int) []byte {
	digits := big.NewInt(int64(n)).Bytes()
	return append([]byte{byte(len(digits))}, digits...)
}

// formOfOne returns the bytes of a signature.
func formOfOne(s api.Sig) []byte {
	return binary.BigEndian.AppendUint64(slices.Concat(s.Key[:], s.Hash[:]), s.Sig)
}

// formAsIs returns what would be the encoding of a table, if l were in order.
func formAsIs(l []api.Sig) []byte {
	b := number(len(l))
	for _, s := range l {
		b = append(b, formOfOne(s)...)
	}
	return b
}

// formOf returns the encoding of a table with these.
func formOf(l []api.Sig) []byte {
	return formAsIs(inOrder(l))
}

// encode returns the encoding of a table.
func encode(t *testing.T, x *sigs.Table) []byte {
	t.Helper()
	b, err := x.Encode()
	if err != api.OK {
		t.Errorf("Encode: %v", err)
	}
	return b
}

// checkDecode reports whether b is a table with these.
func checkDecode(t *testing.T, b []byte, l []api.Sig) *sigs.Table {
	t.Helper()
	x, f := sigs.Decode(b)
	if x == nil || f != (api.Fault{}) {
		t.Fatalf("Decode(% .60x): %v, %v", b, x, f)
	}
	check(t, x, l)
	return x
}

// checkFault reports whether b has that fault.
func checkFault(t *testing.T, b []byte, err api.Errno, at int) {
	t.Helper()
	if x, f := sigs.Decode(b); x != nil || f != (api.Fault{Err: err, At: at}) {
		t.Errorf("Decode(% .60x): %v, %v, not %v at %d", b, x, f, err, at)
	}
}

// P8.2

func TestEncode(t *testing.T) {
	for _, r := range []struct {
		l    []api.Sig
		want string
	}{
		{nil, "00"},
		{[]api.Sig{{}}, "0101" + strings.Repeat("00", size)},
		{[]api.Sig{sig(1, 0, 7), sig(1, 0, 5)}, "0102 00000001" + strings.Repeat("00", 32) + "0000000000000005 00000001" + strings.Repeat("00", 32) + "0000000000000007"},
		{[]api.Sig{sig(1, 2, 0x0102030405060708)}, "0101 00000001" + strings.Repeat("00", 31) + "02 0102030405060708"},
		{[]api.Sig{{Key: api.Key{0xa, 0xb, 0xc, 0xd}, Hash: api.Hash(bytes.Repeat([]byte{0xab}, 32)), Sig: 1<<64 - 1}}, "0101 0a0b0c0d" + strings.Repeat("ab", 32) + "ffffffffffffffff"},
	} {
		if b := encode(t, newTable(t, most, r.l...)); !bytes.Equal(b, unhex(r.want)) {
			t.Errorf("%v: % x", r.l, b)
		}
		checkDecode(t, unhex(r.want), r.l)
	}
	for _, l := range lists() {
		for _, n := range []int{len(l), most} {
			if b := encode(t, newTable(t, n, l...)); !bytes.Equal(b, formOf(l)) {
				t.Errorf("%d signatures: % .60x, not % .60x", len(l), b, formOf(l))
			}
		}
	}
	if b := encode(t, newTable(t, 0)); !bytes.Equal(b, []byte{0}) {
		t.Errorf("of none: % x", b)
	}
	if b := encode(t, newTable(t, most, many(most, 9)...)); len(b) != 3+most*size {
		t.Errorf("the longest: %d bytes", len(b))
	}
}

func TestDecode(t *testing.T) {
	for _, l := range lists() {
		checkDecode(t, formOf(l), l)
	}
	checkDecode(t, formAsIs(steps()), steps())
}

// TestDecodedTablesHaveRoom fills them up to the greatest number, and no further.
func TestDecodedTablesHaveRoom(t *testing.T) {
	all := many(most+1, 4)
	for _, n := range []int{0, 1, 2, 300, 4095, 4096} {
		x := checkDecode(t, formOf(all[:n]), all[:n])
		for _, s := range all[:n] {
			add(t, x, s, api.ErrDouble)
		}
		for _, s := range all[n:most] {
			add(t, x, s, api.OK)
		}
		add(t, x, all[most], api.ErrFull)
		add(t, x, all[0], api.ErrDouble)
		check(t, x, all[:most])
	}
}

// TestDecodeOfFaultyElements has a fault of the reader in every element: the number, a key, a hash, a word.
func TestDecodeOfFaultyElements(t *testing.T) {
	for _, r := range []struct {
		b   string
		err api.Errno
	}{
		{"", api.ErrShort}, {"01", api.ErrShort}, {"02", api.ErrShort}, {"0201", api.ErrShort}, {"08 01", api.ErrShort},
		{"09", api.ErrForm}, {"ff", api.ErrForm}, {"0100", api.ErrForm}, {"020001", api.ErrForm}, {"08 8000000000000000", api.ErrForm}, {"08 ffffffffffffffff", api.ErrForm},
	} {
		checkFault(t, unhex(r.b), r.err, 0)
		if r.err == api.ErrForm {
			checkFault(t, append(unhex(r.b), formOf(many(3, 1))...), r.err, 0)
		}
	}
	checkFault(t, unhex("01 02"), api.ErrShort, 2)
	for _, l := range [][]api.Sig{many(1, 1), many(3, 1), steps()[:9], many(260, 1)} {
		whole := formOf(l)
		head := len(number(len(l)))
		for at := head; at < len(whole); at++ {
			from := at - (at-head)%size
			switch in := at - from; {
			case in < 4:
				checkFault(t, whole[:at], api.ErrShort, from)
			case in < 36:
				checkFault(t, whole[:at], api.ErrShort, from+4)
			default:
				checkFault(t, whole[:at], api.ErrShort, from+36)
			}
		}
	}
}

// TestDecodeOfTooMany has numbers above 4,096, with and without as many signatures behind them.
func TestDecodeOfTooMany(t *testing.T) {
	for _, b := range []string{"02 1001", "02 1002", "02 1100", "02 ffff", "03 010000", "03 100000", "05 0100000000", "08 7fffffffffffffff"} {
		checkFault(t, unhex(b), api.ErrLong, 0)
		checkFault(t, append(unhex(b), 1, 2, 3), api.ErrLong, 0)
		checkFault(t, append(unhex(b), formOfOne(api.Sig{})...), api.ErrLong, 0)
	}
	all := many(most+2, 7)
	checkFault(t, formOf(all[:most+1]), api.ErrLong, 0)
	checkFault(t, formOf(all), api.ErrLong, 0)
	checkFault(t, unhex("02 1000"), api.ErrShort, 3)
	checkFault(t, unhex("02 0fff"), api.ErrShort, 3)
}

func TestDecodeOfWrongOrders(t *testing.T) {
	a, b, c := sig(1, 0, 5), sig(1, 0, 7), sig(2, 0, 1)
	for _, r := range []struct {
		l  []api.Sig
		at int
	}{
		{[]api.Sig{b, a}, 1}, {[]api.Sig{a, a}, 1}, {[]api.Sig{{}, {}}, 1}, {[]api.Sig{c, a}, 1}, {[]api.Sig{c, b}, 1},
		{[]api.Sig{a, b, b}, 2}, {[]api.Sig{a, b, a}, 2}, {[]api.Sig{a, c, b}, 2}, {[]api.Sig{b, c, a}, 2}, {[]api.Sig{a, b, c, c}, 3},
		// the first one that is wrong counts
		{[]api.Sig{c, b, a}, 1}, {[]api.Sig{b, b, a, a}, 1}, {[]api.Sig{b, a, c, c}, 1}, {[]api.Sig{a, c, b, a}, 2},
		{[]api.Sig{{Sig: 1 << 63}, {Sig: 1}}, 1}, {[]api.Sig{sig(1, 1, 1), sig(1, 0, 2)}, 1}, {[]api.Sig{{Key: api.Key{128}}, {Key: api.Key{127}}}, 1},
	} {
		whole := formAsIs(r.l)
		checkFault(t, whole, api.ErrOrder, 2+size*r.at)
		// What comes behind that signature does not matter.
		checkFault(t, append(bytes.Clone(whole), 0), api.ErrOrder, 2+size*r.at)
		checkFault(t, whole[:2+size*(r.at+1)], api.ErrOrder, 2+size*r.at)
		whole[1] += 40
		checkFault(t, whole, api.ErrOrder, 2+size*r.at)
	}
	l := steps()
	for at := range l[1:] {
		turned := slices.Clone(l)
		turned[at], turned[at+1] = turned[at+1], turned[at]
		checkFault(t, formAsIs(turned), api.ErrOrder, 3+size*(at+1))
		turned[at] = turned[at+1]
		checkFault(t, formAsIs(turned), api.ErrOrder, 3+size*(at+1))
	}
	all := inOrder(many(most, 6))
	all[most-1] = all[most-2]
	checkFault(t, formAsIs(all), api.ErrOrder, 3+size*(most-1))
}

// TestDecodeOfPartsInAWrongOrder ends within a signature that can't be greater any more: it is not read, so its fault is the reader's.
func TestDecodeOfPartsInAWrongOrder(t *testing.T) {
	whole := formAsIs([]api.Sig{sig(2, 2, 2), sig(1, 1, 1)})
	for at := 2 + size; at < len(whole); at++ {
		if x, f := sigs.Decode(whole[:at]); x != nil || f.Err != api.ErrShort || f.At < 2+size {
			t.Errorf("%d bytes: %v, %v", at, x, f)
		}
	}
}

func TestDecodeOfBytesThatAreLeft(t *testing.T) {
	for _, l := range lists() {
		b := formOf(l)
		checkFault(t, append(bytes.Clone(b), 0), api.ErrLong, len(b))
		checkFault(t, append(bytes.Clone(b), b...), api.ErrLong, len(b))
		checkFault(t, append(bytes.Clone(b), formOfOne(api.Sig{Key: api.Key{255, 255, 255, 255}})...), api.ErrLong, len(b))
	}
}

// TestDecodeLeavesItsBytes has something behind them in the spare capacity, which is neither read nor changed; and the table stays as it was after they are changed.
func TestDecodeLeavesItsBytes(t *testing.T) {
	for _, l := range lists() {
		whole := formOf(l)
		b := append(bytes.Clone(whole), 1, 2, 3)
		x, f := sigs.Decode(b[:len(whole)])
		if x == nil || f != (api.Fault{}) || !bytes.Equal(b, append(bytes.Clone(whole), 1, 2, 3)) {
			t.Fatalf("%d signatures: %v, %v", len(l), x, f)
		}
		clear(b)
		check(t, x, l)
		if _, f := sigs.Decode(whole[:len(whole)-1]); f.Err != api.ErrShort {
			t.Errorf("%d signatures, without the last byte: %v", len(l), f)
		}
	}
}

// TestEncodingsAreNewMemory changes one, up to its capacity, and looks at the table, at another one and at the next one.
func TestEncodingsAreNewMemory(t *testing.T) {
	for _, l := range lists() {
		x := newTable(t, most, l...)
		one, other := encode(t, x), encode(t, x)
		clear(one[:cap(one)])
		if again := encode(t, x); !bytes.Equal(other, formOf(l)) || !bytes.Equal(again, other) {
			t.Errorf("%d signatures: % .60x, % .60x", len(l), other, again)
		}
		check(t, x, l)
	}
}

// TestWhatFailsChangesNothing looks at the encoding before and after.
func TestWhatFailsChangesNothing(t *testing.T) {
	for _, l := range lists() {
		x := newTable(t, len(l), l...)
		before := encode(t, x)
		for _, s := range l {
			add(t, x, s, api.ErrDouble)
		}
		add(t, x, api.Sig{Key: api.Key{7, 7, 7, 7}, Sig: 1 << 40}, api.ErrFull)
		if after := encode(t, x); !bytes.Equal(before, after) {
			t.Errorf("%d signatures: % .60x, % .60x", len(l), before, after)
		}
	}
}

// P8.3

// checkBytes reports whether b is the encoding of the table that it is decoded as, if there is no fault; and whether there is none beside a fault.
func checkBytes(t *testing.T, b []byte) bool {
	t.Helper()
	x, f := sigs.Decode(b)
	if f != (api.Fault{}) {
		if x != nil || f.Err == api.OK || f.At < 0 || f.At > len(b) {
			t.Errorf("% .60x: %v, %v", b, x, f)
		}
		return false
	}
	if again, err := x.Encode(); !bytes.Equal(again, b) || err != api.OK {
		t.Errorf("% .60x: % .60x, %v", b, again, err)
	}
	return true
}

func TestWhatIsEncodedIsDecoded(t *testing.T) {
	for _, l := range lists() {
		x := newTable(t, most, l...)
		y := checkDecode(t, encode(t, x), l)
		if !bytes.Equal(encode(t, y), encode(t, x)) {
			t.Errorf("%d signatures: not the same again", len(l))
		}
	}
}

// TestNothingElseIsDecoded changes each byte of an encoding, leaves it out, and puts one ahead of it: what is decoded then is another table.
func TestNothingElseIsDecoded(t *testing.T) {
	for _, l := range [][]api.Sig{nil, {{}}, {sig(1, 0, 5), sig(1, 0, 7)}, inOrder(many(3, 2))} {
		whole := formOf(l)
		for at := range whole {
			for x := range 256 {
				b := bytes.Clone(whole)
				b[at] = byte(x)
				if checkBytes(t, b) && !bytes.Equal(b, whole) {
					if y, _ := sigs.Decode(b); slices.Equal(y.List(), l) {
						t.Errorf("% x is %v too", b, l)
					}
				}
				checkBytes(t, slices.Insert(bytes.Clone(whole), at, byte(x)))
			}
			checkBytes(t, slices.Delete(bytes.Clone(whole), at, at+1))
			checkBytes(t, whole[at:])
			checkBytes(t, whole[:at])
		}
	}
}

// TestAnyBytes decodes bytes without a visible pattern that look like a table's, in the right order or not.
func TestAnyBytes(t *testing.T) {
	decoded := 0
	for seed := range uint64(20000) {
		x := mix(seed)
		n := int(x % 5)
		b := number(n)
		for turn := range uint64(n) {
			y := mix(seed<<4 + turn)
			b = append(b, formOfOne(sig(byte(y%4), byte(y>>8%2), y>>16%2))...)
		}
		if x>>16%4 == 0 {
			b = b[:uint64(len(b))-x>>24%uint64(len(b))]
		}
		if checkBytes(t, b) && n > 1 {
			decoded++
		}
	}
	if decoded == 0 {
		t.Error("no bytes were decoded")
	}
}

// permute calls visit with l in each of its orders.
func permute(l []api.Sig, from int, visit func([]api.Sig)) {
	if from == len(l) {
		visit(l)
	}
	for at := from; at < len(l); at++ {
		l[from], l[at] = l[at], l[from]
		permute(l, from+1, visit)
		l[from], l[at] = l[at], l[from]
	}
}

func TestSignaturesAddedInEveryOrder(t *testing.T) {
	all := []api.Sig{sig(1, 0, 5), sig(1, 0, 7), sig(1, 1, 6), sig(2, 0, 1), sig(2, 1, 1), sig(3, 0, 0)}
	want := formOf(all)
	keys := who(all, api.Hash{})
	permute(slices.Clone(all), 0, func(l []api.Sig) {
		x := newTable(t, len(l), l...)
		if b := encode(t, x); !bytes.Equal(b, want) || !slices.Equal(x.List(), all) || !slices.Equal(x.Who(api.Hash{}), keys) {
			t.Errorf("%v: % x, %v, %v", l, b, x.List(), x.Who(api.Hash{}))
		}
	})
}

// TestDifferentTables has tables that differ in little from one another: no two have the same encoding.
func TestDifferentTables(t *testing.T) {
	forms := map[string][]api.Sig{}
	l := steps()
	for from := range l {
		for to := from; to <= min(len(l), from+4); to++ {
			if from == to && from > 0 {
				continue
			}
			b := encode(t, newTable(t, most, l[from:to]...))
			if other, is := forms[string(b)]; is {
				t.Errorf("%v, %v: % x", l[from:to], other, b)
			}
			forms[string(b)] = l[from:to]
		}
	}
}
