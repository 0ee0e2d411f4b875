package commit_test

import (
	"bytes"
	"encoding/binary"
	"encoding/hex"
	"math/big"
	"slices"
	"strings"
	"testing"

	"landfall/api"
	"landfall/commit"
)

// one is the hash h in base 16.
var one = "01" + strings.Repeat("00", 31)

// unhex returns the bytes that s has in base 16, with blanks between them.
func unhex(s string) []byte {
	b, err := hex.DecodeString(strings.ReplaceAll(s, " ", ""))
	if err != nil {
		panic(err)
	}
	return b
}

// number returns the form of n, as the digits of a big number.
func number(n int) []byte {
	digits := big.NewInt(int64(n)).Bytes()
	return append([]byte{byte(len(digits))}, digits...)
}

// formOf returns the encoding of a commit; its height and its places are not negative.
func formOf(c api.Commit) []byte {
	b := slices.Concat(number(c.Height), c.Hash[:], number(len(c.Votes)))
	for _, v := range c.Votes {
		b = binary.BigEndian.AppendUint64(append(b, number(v.At)...), v.Sig)
	}
	return b
}

// hasForm reports whether nothing of c is negative.
func hasForm(c api.Commit) bool {
	return c.Height >= 0 && !slices.ContainsFunc(c.Votes, func(v api.Vote) bool { return v.At < 0 })
}

// checkDecode reports whether b is the commit want, or has that fault.
func checkDecode(t *testing.T, b []byte, want api.Commit, fault api.Fault) {
	t.Helper()
	if c, f := commit.Decode(b); !same(c, want) || f != fault {
		t.Errorf("Decode(% .60x): %v, %v, not %v, %v", b, c, f, want, fault)
	}
}

// checkFault reports whether the bytes that s has in base 16, h as one of them, followed by n times ff, have that fault.
func checkFault(t *testing.T, s string, n int, err api.Errno, at int) {
	t.Helper()
	checkDecode(t, append(unhex(strings.ReplaceAll(s, "h", one)), bytes.Repeat([]byte{0xff}, n)...), api.Commit{}, api.Fault{Err: err, At: at})
}

// P7.2

func TestEncode(t *testing.T) {
	for _, r := range []struct {
		c    api.Commit
		want string
	}{
		{of(5, 0, 7, 3, 9), "0105 h 0102 00 0000000000000007 0103 0000000000000009"},
		{of(5), "0105 h 00"},
		{of(256, 63, -1), "020100 h 0101 013f ffffffffffffffff"},
		{of(api.MaxHeight, 1, 0x0102030405060708), "0440000000 h 0101 0101 0102030405060708"},
		{api.Commit{Height: 1, Hash: api.Hash(unhex(strings.Repeat("ab", 32)))}, "0101" + strings.Repeat("ab", 32) + "00"},
	} {
		want := unhex(strings.ReplaceAll(r.want, "h", one))
		if b, err := commit.Encode(r.c); !bytes.Equal(b, want) || err != api.OK {
			t.Errorf("%v: % x, %v", r.c, b, err)
		}
		checkDecode(t, want, r.c, api.Fault{})
	}
	for _, c := range valid() {
		if b, err := commit.Encode(c); !bytes.Equal(b, formOf(c)) || err != api.OK {
			t.Errorf("%v: % x, %v, not % x", c, b, err, formOf(c))
		}
	}
}

func TestWrongCommitsHaveNoBytes(t *testing.T) {
	for _, r := range wrongs() {
		if b, err := commit.Encode(r.c); len(b) > 0 || err != r.err {
			t.Errorf("%v: % x, %v, not %v", r.c, b, err, r.err)
		}
	}
}

func TestDecode(t *testing.T) {
	for _, c := range valid() {
		checkDecode(t, formOf(c), c, api.Fault{})
	}
}

// TestDecodeOfFaultyElements has a fault of the reader in every element: the height, the hash, the number of votes, a place, a signature.
func TestDecodeOfFaultyElements(t *testing.T) {
	checkFault(t, "", 0, api.ErrShort, 0)
	checkFault(t, "01", 0, api.ErrShort, 0)
	checkFault(t, "0201", 0, api.ErrShort, 0)
	checkFault(t, "09", 200, api.ErrForm, 0)
	checkFault(t, "0100", 200, api.ErrForm, 0)
	checkFault(t, "020001", 200, api.ErrForm, 0)
	checkFault(t, "08 8000000000000000", 200, api.ErrForm, 0)
	for n := range 32 {
		checkFault(t, "0105", n, api.ErrShort, 2)
		checkFault(t, "0440000000", n, api.ErrShort, 5)
	}
	checkFault(t, "0105 h", 0, api.ErrShort, 34)
	checkFault(t, "0105 h 01", 0, api.ErrShort, 34)
	checkFault(t, "0105 h 0200", 0, api.ErrShort, 34)
	checkFault(t, "0105 h 09", 200, api.ErrForm, 34)
	checkFault(t, "0105 h 0100", 200, api.ErrForm, 34)
	checkFault(t, "0105 h 020001", 200, api.ErrForm, 34)
	checkFault(t, "020100 h 08 8000000000000000", 200, api.ErrForm, 35)
	for n := range 8 {
		checkFault(t, "0105 h 0101 00", n, api.ErrShort, 37)
		checkFault(t, "0105 h 0101 0103", n, api.ErrShort, 38)
		checkFault(t, "0105 h 0102 00 0000000000000007 0103", n, api.ErrShort, 47)
	}
	checkFault(t, "0105 h 0101", 0, api.ErrShort, 36)
	checkFault(t, "0105 h 0101 01", 0, api.ErrShort, 36)
	checkFault(t, "0105 h 0101 09", 200, api.ErrForm, 36)
	checkFault(t, "0105 h 0101 0100", 200, api.ErrForm, 36)
	checkFault(t, "0105 h 0101 08 8000000000000000", 200, api.ErrForm, 36)
	checkFault(t, "0105 h 0102 00 0000000000000007", 0, api.ErrShort, 45)
	checkFault(t, "0105 h 0102 00 0000000000000007 ff", 200, api.ErrForm, 45)
	checkFault(t, "0440000000 h 0102 00 0000000000000007 0100", 200, api.ErrForm, 48)
}

// TestDecodeOfTooManyVotes has numbers of votes above 64, with and without as many votes behind them; what comes before the number may be wrong for Check, but not for the reader.
func TestDecodeOfTooManyVotes(t *testing.T) {
	for _, n := range []int{0, 1, 9, 65 * 9, 65 * 10, 1000} {
		checkFault(t, "0105 h 0141", n, api.ErrLong, 34)
		checkFault(t, "00 h 0141", n, api.ErrLong, 33)
		checkFault(t, "0440000000 h 0142", n, api.ErrLong, 37)
		checkFault(t, "08 7fffffffffffffff h 01ff", n, api.ErrLong, 41)
		checkFault(t, "020100 h 020100", n, api.ErrLong, 35)
		checkFault(t, "0105 h 020140", n, api.ErrLong, 34)
		checkFault(t, "0105 h 05 0100000000", n, api.ErrLong, 34)
		checkFault(t, "0105 h 08 7fffffffffffffff", n, api.ErrLong, 34)
	}
	for n := 65; n < 300; n++ {
		checkDecode(t, formOf(many(5, 0, n)), api.Commit{}, api.Fault{Err: api.ErrLong, At: 34})
		checkDecode(t, append(formOf(many(5, 0, n)), 0), api.Commit{}, api.Fault{Err: api.ErrLong, At: 34})
	}
	checkFault(t, "0105 h 0140", 0, api.ErrShort, 36)
	checkFault(t, "0900 h 0141", 200, api.ErrForm, 0)
	checkFault(t, "0100 h 0141", 200, api.ErrForm, 0)
}

func TestDecodeOfBytesThatAreLeft(t *testing.T) {
	for _, c := range valid() {
		b := formOf(c)
		checkDecode(t, append(bytes.Clone(b), 0), api.Commit{}, api.Fault{Err: api.ErrLong, At: len(b)})
		checkDecode(t, append(bytes.Clone(b), b...), api.Commit{}, api.Fault{Err: api.ErrLong, At: len(b)})
	}
}

// TestDecodeOfWrongCommits has bytes without a fault of their own, of a commit that is not valid; where there are too many votes, that is their fault, and bytes that are left come before it, too.
func TestDecodeOfWrongCommits(t *testing.T) {
	sig := " 0000000000000001"
	checkFault(t, "00 h 00", 0, api.ErrRange, 0)
	checkFault(t, "0440000001 h 00", 0, api.ErrRange, 0)
	checkFault(t, "08 7fffffffffffffff h 00", 0, api.ErrRange, 0)
	checkFault(t, "0105 h 0101 0140"+sig, 0, api.ErrRange, 0)
	checkFault(t, "0105 h 0101 08 7fffffffffffffff"+sig, 0, api.ErrRange, 0)
	checkFault(t, "0105 h 0102 0103"+sig+" 0103"+sig, 0, api.ErrOrder, 0)
	checkFault(t, "0105 h 0102 0103"+sig+" 00"+sig, 0, api.ErrOrder, 0)
	checkFault(t, "00 h 0102 0103"+sig+" 00"+sig, 0, api.ErrRange, 0)
	for _, r := range wrongs() {
		switch {
		case !hasForm(r.c):
		case len(r.c.Votes) > api.MaxVals:
			checkDecode(t, formOf(r.c), api.Commit{}, api.Fault{Err: api.ErrLong, At: len(number(r.c.Height)) + 32})
		default:
			checkDecode(t, formOf(r.c), api.Commit{}, api.Fault{Err: r.err})
			checkDecode(t, append(formOf(r.c), 7), api.Commit{}, api.Fault{Err: api.ErrLong, At: len(formOf(r.c))})
			if len(r.c.Votes) > 0 {
				checkDecode(t, formOf(r.c)[:len(formOf(r.c))-1], api.Commit{}, api.Fault{Err: api.ErrShort, At: len(formOf(r.c)) - 8})
			}
		}
	}
}

// TestDecodeLeavesItsBytes has something behind them in the spare capacity, which is neither read nor changed; and the commit stays as it was after they are changed.
func TestDecodeLeavesItsBytes(t *testing.T) {
	for _, want := range valid() {
		b := append(formOf(want), 1, 2, 3)
		c, f := commit.Decode(b[:len(b)-3])
		if !bytes.Equal(b, append(formOf(want), 1, 2, 3)) {
			t.Errorf("%v: changed: % x", want, b)
		}
		clear(b)
		if !same(c, want) || f != (api.Fault{}) {
			t.Errorf("%v: after its bytes were changed: %v, %v", want, c, f)
		}
		whole := formOf(want)
		if c, f := commit.Decode(whole[:len(whole)-1]); !same(c, api.Commit{}) || f.Err != api.ErrShort {
			t.Errorf("%v: without its last byte: %v, %v", want, c, f)
		}
	}
}

// TestResultsAreNewMemory changes one, up to its capacity, and looks at the next one, and at what was encoded.
func TestResultsAreNewMemory(t *testing.T) {
	for _, c := range valid() {
		given, all := spare(c, 3)
		before := slices.Clone(all)
		one, _ := commit.Encode(given)
		other, _ := commit.Encode(given)
		clear(one[:cap(one)])
		again, _ := commit.Encode(given)
		if !bytes.Equal(other, formOf(c)) || !bytes.Equal(again, formOf(c)) || !slices.Equal(all, before) {
			t.Errorf("%v: % x, % x, %v", c, other, again, all)
		}
		a, _ := commit.Decode(other)
		b, _ := commit.Decode(other)
		clear(a.Votes[:cap(a.Votes)])
		if !same(b, c) {
			t.Errorf("%v: %v", c, b)
		}
	}
}

// P7.5

// checkBytes reports whether b is the encoding of what it is decoded as, if there is no fault; and whether nothing is beside a fault.
func checkBytes(t *testing.T, b []byte) {
	t.Helper()
	c, f := commit.Decode(b)
	if f != (api.Fault{}) {
		if !same(c, api.Commit{}) || f.Err == api.OK || f.At < 0 || f.At > len(b) {
			t.Errorf("% .60x: %v, %v", b, c, f)
		}
		return
	}
	if again, err := commit.Encode(c); !bytes.Equal(again, b) || err != api.OK {
		t.Errorf("% .60x: %v, %v: % .60x", b, c, err, again)
	}
}

func TestWhatIsEncodedIsDecoded(t *testing.T) {
	check := func(c api.Commit) {
		b, err := commit.Encode(c)
		if err != api.OK {
			t.Errorf("%v: %v", c, err)
		}
		checkDecode(t, b, c, api.Fault{})
	}
	for _, c := range valid() {
		check(c)
	}
	for seed := range uint64(2000) {
		check(some(seed))
	}
}

// TestNothingElseIsDecoded changes each byte of an encoding, leaves it out, puts one ahead of it, and ends there.
func TestNothingElseIsDecoded(t *testing.T) {
	for _, want := range []api.Commit{of(5), of(5, 0, 7, 3, 9), of(api.MaxHeight, 62, -1, 63, 0), some(1)} {
		whole := formOf(want)
		for at := range whole {
			for x := range 256 {
				b := bytes.Clone(whole)
				b[at] = byte(x)
				checkBytes(t, b)
				checkBytes(t, slices.Insert(bytes.Clone(whole), at, byte(x)))
				if c, f := commit.Decode(b); f.Err == api.OK && same(c, want) != bytes.Equal(b, whole) {
					t.Errorf("% x is %v too", b, want)
				}
			}
			checkBytes(t, slices.Delete(bytes.Clone(whole), at, at+1))
			checkBytes(t, whole[at:])
			if c, f := commit.Decode(whole[:at]); !same(c, api.Commit{}) || f.Err != api.ErrShort {
				t.Errorf("% x: %v, %v", whole[:at], c, f)
			}
		}
	}
}

// TestAnyBytes decodes bytes without a visible pattern that look like a commit's.
func TestAnyBytes(t *testing.T) {
	decoded := 0
	for seed := range uint64(100000) {
		x := mix(seed)
		b := append([]byte{1, byte(x % 3)}, make([]byte, 32)...)
		n := x >> 8 % 4
		b = append(b, number(int(n))...)
		for turn := range n {
			y := mix(seed<<4 + turn)
			b = binary.BigEndian.AppendUint64(append(b, number(int(y%4))...), y)
		}
		b = b[:uint64(len(b))-x>>16%5/4]
		checkBytes(t, b)
		if _, f := commit.Decode(b); f.Err == api.OK {
			decoded++
		}
	}
	if decoded == 0 {
		t.Error("no bytes were decoded")
	}
}

// TestDifferentCommits has commits that differ in little from one another: no two have the same encoding.
func TestDifferentCommits(t *testing.T) {
	l := append(valid(), of(6, 0, 7, 3, 9), of(5, 0, 9, 3, 7), of(5, 0, 7), of(5, 3, 9), of(5, 0, 7, 4, 9), of(5, 1, 7, 3, 9), of(5, 0, 7, 3, 10), of(5, 0, 1<<32, 3, 9))
	for at := range 32 {
		c := of(5, 0, 7, 3, 9)
		c.Hash[at] ^= 4
		l = append(l, c)
	}
	forms := map[string]api.Commit{}
	for _, c := range l {
		b, err := commit.Encode(c)
		if other, is := forms[string(b)]; is && !same(c, other) || err != api.OK {
			t.Errorf("%v, %v: % x, %v", c, other, b, err)
		}
		forms[string(b)] = c
	}
}
