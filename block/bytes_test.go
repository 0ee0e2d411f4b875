package block_test

import (
	"bytes"
	"encoding/binary"
	"encoding/hex"
	"math/big"
	"slices"
	"strings"
	"testing"

	"landfall/api"
	"landfall/block"
)

// unhex returns the bytes that s has in base 16, with blanks between them.
func unhex(s string) []byte {
	b, err := hex.DecodeString(strings.ReplaceAll(s, " ", ""))
	if err != nil {
		panic(err)
	}
	return b
}

// number returns the form of n, as the digits of a big number.
func number(n int) []byte {
	digits := big.NewInt(int64(n)).Bytes()
	return append([]byte{byte(len(digits))}, digits...)
}

// sized returns the form of b as an item.
func sized(b []byte) []byte {
	return append(number(len(b)), b...)
}

// items returns the bytes of the parts of b, in the order in which they are encoded.
func items(b api.Block) [][]byte {
	h := slices.Concat(sized([]byte(b.H.Chain)), number(b.H.Height), number(b.H.Time), b.H.Prev[:], b.H.Vals[:], b.H.Next[:], b.H.App[:])
	c := slices.Concat(number(b.Commit.Height), b.Commit.Hash[:], number(len(b.Commit.Votes)))
	for _, v := range b.Commit.Votes {
		c = binary.BigEndian.AppendUint64(append(c, number(v.At)...), v.Sig)
	}
	l := number(len(b.Vals))
	for _, v := range b.Vals {
		l = slices.Concat(l, v.Key[:], number(v.Power))
	}
	return [][]byte{h, c, l}
}

// joined returns items as one.
func joined(items [][]byte) []byte {
	var b []byte
	for _, item := range items {
		b = append(b, sized(item)...)
	}
	return b
}

// formOf returns the bytes of a block.
func formOf(b api.Block) []byte {
	return joined(items(b))
}

// begins returns where each item begins in items as one, and where they end.
func begins(items [][]byte) []int {
	l := []int{0}
	for at := range items {
		l = append(l, len(joined(items[:at+1])))
	}
	return l
}

// checkDecode reports whether b is a block, and that one.
func checkDecode(t *testing.T, b []byte, want api.Block) {
	t.Helper()
	if x, f := block.Decode(b); !same(x, want) || f != (api.Fault{}) {
		t.Errorf("Decode(% .60x): %v, %v, not %v", b, x, f, want)
	}
}

// checkFault reports whether b has that fault.
func checkFault(t *testing.T, b []byte, err api.Errno, at int) {
	t.Helper()
	if x, f := block.Decode(b); !same(x, api.Block{}) || f != (api.Fault{Err: err, At: at}) {
		t.Errorf("Decode(% .60x): %v, %v, not %v at %d", b, x, f, err, at)
	}
}

// unlinked returns blocks whose parts are valid, but don't belong together.
func unlinked() []api.Block {
	var l []api.Block
	broken(func(b api.Block, err api.Errno) bool {
		if err != api.OK {
			l = append(l, b)
		}
		return true
	}, wrongLinks(), wrongHeights(), wrongPlaces())
	return l
}

// P9.3

// TestEncodeOfOne has the whole bytes of a block, written down.
func TestEncodeOfOne(t *testing.T) {
	prev, set, next, app, hash := strings.Repeat("11", 32), strings.Repeat("22", 32), strings.Repeat("33", 32), strings.Repeat("44", 32), strings.Repeat("55", 32)
	want := unhex("0189 0103736561 020100 00" + prev + set + next + app + "0137 0102" + hash + "0102 00 0000000000000007 0103 8000000000000000" + "010f 0102 00000001 0105 00000002 020101")
	// Its parts don't belong together: that doesn't matter here.
	b := api.Block{
		H:      api.Header{Chain: "sea", Height: 256, Prev: api.Hash(unhex(prev)), Vals: api.Hash(unhex(set)), Next: api.Hash(unhex(next)), App: api.Hash(unhex(app))},
		Commit: api.Commit{Height: 2, Hash: api.Hash(unhex(hash)), Votes: []api.Vote{{At: 0, Sig: 7}, {At: 3, Sig: 1 << 63}}},
		Vals:   []api.Validator{{Key: key(1), Power: 5}, {Key: key(2), Power: 257}},
	}
	if x, err := block.Encode(b); !bytes.Equal(x, want) || err != api.OK {
		t.Errorf("% x, %v, not % x", x, err, want)
	}
	checkDecode(t, want, b)
}

func TestEncode(t *testing.T) {
	for _, b := range append(blocks(), unlinked()...) {
		if x, err := block.Encode(b); !bytes.Equal(x, formOf(b)) || err != api.OK {
			t.Errorf("%v: % x, %v", b, x, err)
		}
		checkDecode(t, formOf(b), b)
	}
}

// TestEncodeNamesTheFirstError has every combination of parts that aren't valid.
func TestEncodeNamesTheFirstError(t *testing.T) {
	broken(func(b api.Block, want api.Errno) bool {
		x, err := block.Encode(b)
		if err != want || err != api.OK && len(x) > 0 {
			t.Errorf("%v: % x, %v, not %v", b, x, err, want)
		}
		return true
	}, wrongHeaders(), wrongSets(), wrongCommits())
	if x, err := block.Encode(api.Block{}); len(x) > 0 || err != api.ErrForm {
		t.Errorf("of nothing: % x, %v", x, err)
	}
}

// TestDecodeOfFaultyItems has, in place of each item, what the reader can't read, and then something that is more, or nothing.
func TestDecodeOfFaultyItems(t *testing.T) {
	l := items(example(0, 1))
	for at, from := range begins(l)[:3] {
		for _, r := range []struct {
			b   string
			err api.Errno
		}{
			{"", api.ErrShort}, {"01", api.ErrShort}, {"0201", api.ErrShort}, {"0101", api.ErrShort}, {"0105 01020304", api.ErrShort}, {"03010000", api.ErrShort}, {"02ffff 00", api.ErrShort},
			{"09", api.ErrForm}, {"ff", api.ErrForm}, {"0100", api.ErrForm}, {"020001 00", api.ErrForm}, {"08 8000000000000000", api.ErrForm},
			{"03010001", api.ErrLong}, {"03020000", api.ErrLong}, {"0401000000", api.ErrLong}, {"08 7fffffffffffffff", api.ErrLong},
		} {
			b := append(joined(l[:at]), unhex(r.b)...)
			checkFault(t, b, r.err, from)
			if r.err != api.ErrShort {
				checkFault(t, append(b, joined(l)...), r.err, from)
			}
		}
	}
}

// TestDecodeOfGreatItems has items of as many bytes as there may be, and more: none of them is valid.
func TestDecodeOfGreatItems(t *testing.T) {
	l := items(example(0, 1))
	for at, from := range begins(l)[:3] {
		for _, n := range []int{1 << 10, 1<<16 - 1, 1 << 16, 1<<16 + 1, 1 << 17, 1 << 20} {
			want := api.ErrForm
			if n > 1<<16 {
				want = api.ErrLong
			}
			great := slices.Clone(l)
			great[at] = append(bytes.Clone(l[at]), make([]byte, n-len(l[at]))...)
			checkFault(t, joined(great), want, from)
			checkFault(t, joined(great[:at+1]), want, from)
		}
	}
}

// TestDecodeOfWrongItems has items that are none of their part, in place of each: what comes after does not matter.
func TestDecodeOfWrongItems(t *testing.T) {
	for _, good := range []api.Block{example(), example(0, 1), blocks()[40]} {
		l := items(good)
		for at, from := range begins(l)[:3] {
			wrong := [][]byte{nil, {7}, l[(at+1)%3], l[(at+2)%3], l[at][:len(l[at])-1], l[at][1:], append(bytes.Clone(l[at]), 0), bytes.Repeat(l[at], 2)}
			for _, item := range wrong {
				x := slices.Clone(l)
				x[at] = item
				checkFault(t, joined(x), api.ErrForm, from)
				checkFault(t, append(joined(x), 9), api.ErrForm, from)
				checkFault(t, joined(x[:at+1]), api.ErrForm, from)
				if at < 2 {
					checkFault(t, append(joined(x[:at+1]), 0xff), api.ErrForm, from)
					x[at+1] = nil
					checkFault(t, joined(x), api.ErrForm, from)
				}
			}
		}
	}
}

// TestDecodeOfInvalidParts has items of headers, commits and sets that aren't valid: the first one in the bytes counts.
func TestDecodeOfInvalidParts(t *testing.T) {
	lists := [][]breaking{wrongHeaders(), wrongCommits(), wrongSets()}
	seen := 0
	broken(func(b api.Block, err api.Errno) bool {
		if err == api.OK || b.H.Height < 0 || b.H.Time < 0 || b.Commit.Height < 0 || len(b.Commit.Votes) > 0 && b.Commit.Votes[0].At < 0 {
			return true // what is below 0 has no bytes
		}
		seen++
		l := items(b)
		first := 2
		for at, list := range lists[:2] {
			if isBroken(b, list, at) {
				first = at
				break
			}
		}
		checkFault(t, formOf(b), api.ErrForm, begins(l)[first])
		checkFault(t, append(formOf(b), 1), api.ErrForm, begins(l)[first])
		return true
	}, lists...)
	if seen < 100 {
		t.Errorf("%d blocks", seen)
	}
}

// isBroken returns whether the part of b at that place among the items is one that the list makes.
func isBroken(b api.Block, list []breaking, at int) bool {
	for _, x := range list[1:] {
		c := example(0, 1)
		x.turn(&c)
		if bytes.Equal(items(c)[at], items(b)[at]) {
			return true
		}
	}
	return false
}

func TestDecodeOfBytesThatAreLeft(t *testing.T) {
	for _, want := range append(blocks(), unlinked()...) {
		b := formOf(want)
		checkFault(t, append(bytes.Clone(b), 0), api.ErrLong, len(b))
		checkFault(t, append(bytes.Clone(b), b...), api.ErrLong, len(b))
	}
}

// TestDecodeOfBytesThatEnd has all that a block's bytes begin with: what is missing is where the first item begins that isn't whole.
func TestDecodeOfBytesThatEnd(t *testing.T) {
	for _, want := range []api.Block{example(), example(0, 1), blocks()[40]} {
		b, places := formOf(want), begins(items(want))
		for n := range b {
			from := 0
			for _, at := range places[:3] {
				if n >= at {
					from = at
				}
			}
			checkFault(t, b[:n], api.ErrShort, from)
		}
	}
	checkFault(t, nil, api.ErrShort, 0)
	checkFault(t, []byte{}, api.ErrShort, 0)
}

// TestDecodeLeavesItsBytes has something behind them in the spare capacity, which is neither read nor changed; and the block stays as it was after they are changed.
func TestDecodeLeavesItsBytes(t *testing.T) {
	for _, want := range blocks() {
		b := append(formOf(want), 1, 2, 3)
		x, f := block.Decode(b[:len(b)-3])
		if !bytes.Equal(b, append(formOf(want), 1, 2, 3)) {
			t.Errorf("%v: changed: % x", want, b)
		}
		clear(b)
		if !same(x, want) || f != (api.Fault{}) {
			t.Errorf("%v: after its bytes were changed: %v, %v", want, x, f)
		}
		whole := formOf(want)
		if x, f := block.Decode(whole[:len(whole)-1]); !same(x, api.Block{}) || f.Err != api.ErrShort {
			t.Errorf("%v: without its last byte: %v, %v", want, x, f)
		}
	}
}

// TestResultsAreNewMemory changes one, up to its capacity, and looks at the next one, and at what was encoded.
func TestResultsAreNewMemory(t *testing.T) {
	for _, want := range blocks() {
		given := clone(want)
		one, _ := block.Encode(given)
		other, _ := block.Encode(given)
		clear(one[:cap(one)])
		again, _ := block.Encode(given)
		if !bytes.Equal(other, formOf(want)) || !bytes.Equal(again, formOf(want)) || !same(given, want) {
			t.Errorf("%v: % x, % x, %v", want, other, again, given)
		}
		a, _ := block.Decode(other)
		b, _ := block.Decode(other)
		clear(a.Commit.Votes[:cap(a.Commit.Votes)])
		clear(a.Vals[:cap(a.Vals)])
		if !same(b, want) || !bytes.Equal(other, formOf(want)) {
			t.Errorf("%v: %v", want, b)
		}
	}
}

// P9.5

// checkBytes reports whether b is the encoding of what it is decoded as, if there is no fault; and whether nothing is beside a fault.
func checkBytes(t *testing.T, b []byte) {
	t.Helper()
	x, f := block.Decode(b)
	if f != (api.Fault{}) {
		if !same(x, api.Block{}) || f.Err == api.OK || f.At < 0 || f.At > len(b) {
			t.Errorf("% .60x: %v, %v", b, x, f)
		}
		return
	}
	if again, err := block.Encode(x); !bytes.Equal(again, b) || err != api.OK {
		t.Errorf("% .60x: %v, %v: % .60x", b, x, err, again)
	}
}

// some returns a block without a visible pattern, whose parts are valid.
func some(seed uint64) api.Block {
	x := mix(seed)
	h := api.Header{Chain: []string{"a", "sea", "sea-2"}[x%3], Height: int(mix(seed+1)>>34) + 1, Time: int(mix(seed+2) >> 24), Prev: hashOf(x), Vals: hashOf(x + 1), Next: hashOf(x + 2), App: hashOf(x + 3)}
	b := api.Block{H: h, Commit: api.Commit{Height: int(mix(seed+3)>>34) + 1, Hash: hashOf(x + 4)}}
	for at := range int(x >> 8 % 65) {
		if mix(x+uint64(at))%3 > 0 {
			b.Commit.Votes = append(b.Commit.Votes, api.Vote{At: at, Sig: mix(x - uint64(at))})
		}
	}
	for at := range int(x>>16%64) + 1 {
		y := mix(x ^ uint64(at))
		b.Vals = append(b.Vals, api.Validator{Key: key(at*1000 + int(y%1000)), Power: int(y>>(2+y%60)) + 1})
	}
	return b
}

func TestWhatIsEncodedIsDecoded(t *testing.T) {
	check := func(want api.Block) {
		b, err := block.Encode(want)
		if err != api.OK {
			t.Errorf("%v: %v", want, err)
		}
		checkDecode(t, b, want)
	}
	for _, b := range append(blocks(), unlinked()...) {
		check(b)
	}
	for seed := range uint64(1000) {
		check(some(seed))
	}
}

// TestNothingElseIsDecoded changes each byte of an encoding, leaves it out, puts one ahead of it, and begins there.
func TestNothingElseIsDecoded(t *testing.T) {
	for _, want := range []api.Block{example(), example(0, 1)} {
		whole := formOf(want)
		for at := range whole {
			for x := range 256 {
				b := bytes.Clone(whole)
				b[at] = byte(x)
				checkBytes(t, b)
				checkBytes(t, slices.Insert(bytes.Clone(whole), at, byte(x)))
				if c, f := block.Decode(b); f.Err == api.OK && same(c, want) != bytes.Equal(b, whole) {
					t.Errorf("% x is %v too", b, want)
				}
			}
			checkBytes(t, slices.Delete(bytes.Clone(whole), at, at+1))
			checkBytes(t, whole[at:])
		}
	}
}

// TestDifferentBlocks has blocks that differ in one thing from another one: none of them has the same encoding.
func TestDifferentBlocks(t *testing.T) {
	for _, a := range []api.Block{example(), example(0, 1), blocks()[40]} {
		for _, b := range others(a) {
			if x, err := block.Encode(b); err == api.OK && bytes.Equal(x, formOf(a)) {
				t.Errorf("%v, %v: % x", a, b, x)
			}
		}
	}
}
