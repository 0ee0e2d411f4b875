package sigs_test

import (
	"math"
	"slices"
	"strings"
	"testing"

	"landfall/api"
	"landfall/sigs"
)

const (
	maxInt = math.MaxInt
	minInt = math.MinInt
	most   = api.MaxSigs
)

// mix returns the next number of a fixed sequence without a visible pattern.
func mix(x uint64) uint64 {
	x += 0x9e3779b97f4a7c15
	x = (x ^ x>>30) * 0xbf58476d1ce4e5b9
	x = (x ^ x>>27) * 0x94d049bb133111eb
	return x ^ x>>31
}

// sig returns the signature n of the key that ends in key, over the hash that ends in hash.
func sig(key, hash byte, n uint64) api.Sig {
	return api.Sig{Key: api.Key{3: key}, Hash: api.Hash{31: hash}, Sig: n}
}

// many returns n signatures that differ, without a visible pattern; about three of a key, and about as many over a hash.
func many(n int, seed uint64) []api.Sig {
	var l []api.Sig
	for at := range uint64(n) {
		x := mix(seed<<16 + at)
		s := api.Sig{Sig: x<<13 + at}
		for place := range s.Key {
			s.Key[place] = byte(mix(x%uint64(1+n/3)) >> (8 * place))
		}
		for place := range s.Hash {
			s.Hash[place] = byte(mix(x>>32%uint64(1+n/3)+uint64(place/8)) >> (8 * (place % 8)))
		}
		l = append(l, s)
	}
	return l
}

// steps returns signatures in order, at the edges of each byte of each part.
func steps() []api.Sig {
	l := []api.Sig{{}, {Sig: 1}, {Sig: 255}, {Sig: 256}, {Sig: 1 << 32}, {Sig: math.MaxInt64}, {Sig: 1 << 63}, {Sig: math.MaxUint64}}
	for at := 31; at >= 0; at-- {
		for _, x := range []byte{1, 127, 128, 255} {
			var h api.Hash
			h[at] = x
			l = append(l, api.Sig{Hash: h}, api.Sig{Hash: h, Sig: 3})
		}
	}
	for at := 3; at >= 0; at-- {
		for _, x := range []byte{1, 127, 128, 255} {
			var k api.Key
			k[at] = x
			l = append(l, api.Sig{Key: k}, api.Sig{Key: k, Sig: 9}, api.Sig{Key: k, Hash: api.Hash{31: 2}}, api.Sig{Key: k, Hash: api.Hash{2}, Sig: 7})
		}
	}
	return l
}

// inOrder returns l by the order of the forms, which are all as long and have the highest byte first.
func inOrder(l []api.Sig) []api.Sig {
	return slices.SortedFunc(slices.Values(l), func(a, b api.Sig) int { return strings.Compare(string(formOfOne(a)), string(formOfOne(b))) })
}

// who returns the keys that have a signature over h in l, in order.
func who(l []api.Sig, h api.Hash) []api.Key {
	var keys []api.Key
	for _, s := range inOrder(l) {
		if s.Hash == h && !slices.Contains(keys, s.Key) {
			keys = append(keys, s.Key)
		}
	}
	return keys
}

// lists returns lists of signatures that differ, in no order, of many lengths.
func lists() [][]api.Sig {
	l := [][]api.Sig{nil, {{}}, {sig(1, 0, 7)}, {sig(1, 0, 7), sig(1, 0, 5)}, {sig(2, 1, 1), sig(1, 1, 1), sig(2, 0, 1), sig(1, 0, 1)}, steps(), many(most, 1)}
	for seed := range 40 {
		l = append(l, many(seed*seed/4, uint64(seed)))
	}
	return l
}

// newTable returns a table with these, for at most n.
func newTable(t *testing.T, n int, l ...api.Sig) *sigs.Table {
	t.Helper()
	x, err := sigs.New(n)
	if x == nil || err != api.OK {
		t.Fatalf("New(%d): %v, %v", n, x, err)
	}
	for _, s := range l {
		add(t, x, s, api.OK)
	}
	return x
}

// add reports whether the table answers that when s is added.
func add(t *testing.T, x *sigs.Table, s api.Sig, want api.Errno) {
	t.Helper()
	if err := x.Add(s); err != want {
		t.Errorf("Add(%v): %v, not %v", s, err, want)
	}
}

// check reports whether the table has exactly the signatures of l, which may be in any order.
func check(t *testing.T, x *sigs.Table, l []api.Sig) {
	t.Helper()
	if got := x.List(); !slices.Equal(got, inOrder(l)) {
		t.Errorf("List: %v, not %v", got, inOrder(l))
	}
	if n := x.Len(); n != len(l) {
		t.Errorf("Len: %d, not %d", n, len(l))
	}
	for _, s := range l {
		if !x.Has(s) {
			t.Errorf("Has(%v): false", s)
		}
	}
}

// P8.1

func TestExamples(t *testing.T) {
	a, b, c := sig(1, 0, 7), sig(1, 0, 5), sig(2, 0, 1)
	x := newTable(t, 2)
	add(t, x, a, api.OK)
	add(t, x, a, api.ErrDouble)
	add(t, x, b, api.OK)
	add(t, x, c, api.ErrFull)
	if !x.Has(b) || x.Has(c) || x.Len() != 2 || !slices.Equal(x.List(), []api.Sig{b, a}) || !slices.Equal(x.Who(api.Hash{}), []api.Key{{3: 1}}) {
		t.Errorf("%v, %v", x.List(), x.Who(api.Hash{}))
	}
}

func TestNew(t *testing.T) {
	for _, n := range []int{0, 1, 2, 3, 63, 64, 255, 256, 4094, 4095, 4096} {
		check(t, newTable(t, n), nil)
	}
	for _, n := range []int{-1, -2, -4096, minInt, 4097, 4098, 8192, 65536, 1 << 32, 1<<32 + 1, maxInt} {
		if x, err := sigs.New(n); x != nil || err != api.ErrRange {
			t.Errorf("New(%d): %v, %v", n, x, err)
		}
	}
}

// TestAddUpToMost fills tables: one that is full still tells which signature it has already.
func TestAddUpToMost(t *testing.T) {
	all := many(most+2, 3)
	for _, n := range []int{0, 1, 2, 3, 10, 64, 65, 1000, 4095, 4096} {
		x := newTable(t, n)
		for at, s := range all[:n] {
			add(t, x, s, api.OK)
			add(t, x, s, api.ErrDouble)
			if x.Len() != at+1 {
				t.Fatalf("of %d: Len after %d: %d", n, at+1, x.Len())
			}
		}
		for _, s := range all[n : n+2] {
			add(t, x, s, api.ErrFull)
			if x.Has(s) {
				t.Errorf("of %d: has what was not added", n)
			}
		}
		for _, s := range all[:n] {
			add(t, x, s, api.ErrDouble)
		}
		check(t, x, all[:n])
	}
}

// TestNothingLikeItIsHad has signatures that differ from each other in one byte of one part: they are not the same, and are added beside each other.
func TestNothingLikeItIsHad(t *testing.T) {
	base := many(1, 5)[0]
	x := newTable(t, most, base)
	l := []api.Sig{base}
	try := func(change func(s *api.Sig)) {
		s := base
		change(&s)
		if x.Has(s) {
			t.Errorf("has %v", s)
		}
		add(t, x, s, api.OK)
		add(t, x, s, api.ErrDouble)
		l = append(l, s)
	}
	for _, bit := range []byte{1, 16, 128} {
		for at := range base.Key {
			try(func(s *api.Sig) { s.Key[at] ^= bit })
		}
		for at := range base.Hash {
			try(func(s *api.Sig) { s.Hash[at] ^= bit })
		}
	}
	for at := range 64 {
		try(func(s *api.Sig) { s.Sig ^= 1 << at })
	}
	check(t, x, l)
}

// TestOrder adds signatures, whose order is known, from the last one on.
func TestOrder(t *testing.T) {
	l := steps()
	x := newTable(t, most)
	for _, s := range slices.Backward(l) {
		add(t, x, s, api.OK)
	}
	if !slices.Equal(x.List(), l) {
		t.Errorf("%v", x.List())
	}
	check(t, x, l)
}

func TestList(t *testing.T) {
	for _, l := range lists() {
		check(t, newTable(t, most, l...), l)
		check(t, newTable(t, len(l), l...), l)
	}
}

func TestWho(t *testing.T) {
	for _, r := range []struct {
		l    []api.Sig
		h    byte
		want []api.Key
	}{
		{nil, 0, nil},
		{[]api.Sig{sig(1, 0, 7)}, 0, []api.Key{{3: 1}}},
		{[]api.Sig{sig(1, 0, 7)}, 1, nil},
		{[]api.Sig{sig(0, 0, 0)}, 0, []api.Key{{}}},
		{[]api.Sig{sig(1, 0, 7), sig(1, 0, 5), sig(1, 0, 9)}, 0, []api.Key{{3: 1}}},
		{[]api.Sig{sig(3, 1, 7), sig(2, 1, 8), sig(1, 1, 9)}, 1, []api.Key{{3: 1}, {3: 2}, {3: 3}}},
		{[]api.Sig{sig(3, 1, 7), sig(2, 2, 8), sig(1, 1, 9), sig(3, 1, 1), sig(2, 0, 1), sig(1, 0, 9)}, 1, []api.Key{{3: 1}, {3: 3}}},
		{[]api.Sig{sig(1, 1, 1), sig(2, 1, 1), sig(1, 1, 2), sig(2, 1, 2), sig(1, 1, 3)}, 1, []api.Key{{3: 1}, {3: 2}}},
		{[]api.Sig{{Key: api.Key{255}}, {Key: api.Key{128}}, {Key: api.Key{127}}, {Key: api.Key{1: 255}}, {Key: api.Key{3: 255}}}, 0, []api.Key{{3: 255}, {1: 255}, {127}, {128}, {255}}},
		{[]api.Sig{{Key: api.Key{1}, Hash: api.Hash{1}}, {Key: api.Key{2}, Hash: api.Hash{30: 1}}, {Key: api.Key{3}, Hash: api.Hash{31: 1}}}, 1, []api.Key{{3}}},
	} {
		if got := newTable(t, most, r.l...).Who(api.Hash{31: r.h}); !slices.Equal(got, r.want) {
			t.Errorf("Who(%d) of %v: %v, not %v", r.h, r.l, got, r.want)
		}
	}
	for _, l := range lists() {
		x := newTable(t, most, l...)
		for _, s := range l[:min(len(l), 50)] {
			if got := x.Who(s.Hash); !slices.Equal(got, who(l, s.Hash)) {
				t.Errorf("Who(%x): %v, not %v", s.Hash, got, who(l, s.Hash))
			}
		}
		if got := x.Who(api.Hash{9, 9, 9}); len(got) > 0 {
			t.Errorf("nobody signed that hash: %v", got)
		}
	}
}

// TestWhoOfAFullTable has as many keys over one hash as there may be, and one key as often.
func TestWhoOfAFullTable(t *testing.T) {
	x, y := newTable(t, most), newTable(t, most)
	var keys []api.Key
	for at := range most {
		key := api.Key{2: byte(at >> 8), 3: byte(at)}
		keys = append(keys, key)
		add(t, x, api.Sig{Key: key, Sig: mix(uint64(at))}, api.OK)
		add(t, y, sig(1, 0, mix(uint64(at))), api.OK)
	}
	if got := x.Who(api.Hash{}); !slices.Equal(got, keys) {
		t.Errorf("%d keys: %v", len(got), got)
	}
	if got := y.Who(api.Hash{}); !slices.Equal(got, []api.Key{{3: 1}}) {
		t.Errorf("%d keys: %v", len(got), got)
	}
}

// TestAnyCalls makes calls without a visible pattern, and holds each answer against those of a plain list.
func TestAnyCalls(t *testing.T) {
	for seed := range uint64(200) {
		n := int(seed % 12)
		x := newTable(t, n)
		var l []api.Sig
		for turn := range uint64(100) {
			r := mix(seed<<32 + turn)
			s := sig(byte(r%3), byte(r>>8%2), r>>16%3)
			if x.Has(s) != slices.Contains(l, s) {
				t.Fatalf("seed %d: Has(%v) of %v", seed, s, l)
			}
			want := api.OK
			switch {
			case slices.Contains(l, s):
				want = api.ErrDouble
			case len(l) == n:
				want = api.ErrFull
			default:
				l = append(l, s)
			}
			add(t, x, s, want)
			check(t, x, l)
			for hash := range byte(3) {
				if got := x.Who(api.Hash{31: hash}); !slices.Equal(got, who(l, api.Hash{31: hash})) {
					t.Fatalf("seed %d: Who(%d) of %v: %v", seed, hash, l, got)
				}
			}
		}
	}
}

func TestTablesAreIndependent(t *testing.T) {
	l := many(100, 8)
	a, b := newTable(t, 60), newTable(t, 40)
	for at, s := range l {
		if at < 60 {
			add(t, a, s, api.OK)
		} else {
			add(t, b, s, api.OK)
		}
	}
	check(t, a, l[:60])
	check(t, b, l[60:])
	for _, s := range l[60:] {
		if a.Has(s) || b.Has(l[0]) {
			t.Errorf("%v is in both", s)
		}
	}
}

// TestListsAreNewMemory changes lists, up to their capacity, and looks at the table and at lists that were returned before.
func TestListsAreNewMemory(t *testing.T) {
	for _, l := range lists() {
		x := newTable(t, most, l...)
		var h api.Hash
		if len(l) > 0 {
			h = l[0].Hash
		}
		kept, keys := x.List(), x.Who(h)
		one, two := x.List(), x.Who(h)
		clear(one[:cap(one)])
		clear(two[:cap(two)])
		check(t, x, l)
		if !slices.Equal(kept, inOrder(l)) || !slices.Equal(keys, who(l, h)) || !slices.Equal(x.Who(h), keys) {
			t.Errorf("%v: %v, %v", l, kept, keys)
		}
		if len(l) < most {
			more := api.Sig{Hash: h, Sig: 1 << 50}
			add(t, x, more, api.OK)
			if !slices.Equal(kept, inOrder(l)) || !slices.Equal(keys, who(l, h)) {
				t.Errorf("%v: changed by what was added: %v, %v", l, kept, keys)
			}
		}
	}
}

// checkInvalid reports whether x answers as an invalid table does, even after something was to be added.
func checkInvalid(t *testing.T, what string, x *sigs.Table, l ...api.Sig) {
	t.Helper()
	for _, s := range append(l, api.Sig{}, sig(1, 0, 7), sig(1, 0, 7)) {
		add(t, x, s, api.ErrNil)
		if x.Has(s) || x.Len() != 0 || len(x.List()) > 0 || len(x.Who(s.Hash)) > 0 {
			t.Errorf("%s: %v, %d, %v, %v", what, x.Has(s), x.Len(), x.List(), x.Who(s.Hash))
		}
		if b, err := x.Encode(); len(b) > 0 || err != api.ErrNil {
			t.Errorf("%s: Encode: % x, %v", what, b, err)
		}
	}
}

func TestInvalidTables(t *testing.T) {
	checkInvalid(t, "nil", nil)
	checkInvalid(t, "zero", &sigs.Table{})
	checkInvalid(t, "new", new(sigs.Table))
	checkInvalid(t, "of a list", &make([]sigs.Table, 2)[1])
}

// TestCopiesAreInvalid has copies of a table: neither New nor Decode returned one of them, and nothing done to them reaches that table.
func TestCopiesAreInvalid(t *testing.T) {
	l := many(5, 2)
	x := newTable(t, 10, l...)
	y, _ := sigs.Decode(formOf(l))
	for _, from := range []*sigs.Table{x, y} {
		c := *from
		checkInvalid(t, "copy", &c, l...)
		check(t, from, l)
		other := newTable(t, 3)
		*other = *from
		checkInvalid(t, "overwritten", other, l...)
		check(t, from, l)
		more := sig(8, 8, 8)
		add(t, from, more, api.OK)
		check(t, from, append(slices.Clone(l), more))
	}
}
