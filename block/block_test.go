package block_test

import (
	"encoding/binary"
	"math"
	"slices"
	"strings"
	"testing"

	"landfall/api"
	"landfall/block"
	"landfall/header"
	"landfall/vals"
)

const (
	maxInt = math.MaxInt
	minInt = math.MinInt
)

// mix returns the next number of a fixed sequence without a visible pattern.
func mix(x uint64) uint64 {
	x += 0x9e3779b97f4a7c15
	x = (x ^ x>>30) * 0xbf58476d1ce4e5b9
	x = (x ^ x>>27) * 0x94d049bb133111eb
	return x ^ x>>31
}

// key returns the key that is n in base 256.
func key(n int) (k api.Key) {
	binary.BigEndian.PutUint32(k[:], uint32(n))
	return k
}

// set returns n validators, from the key first on.
func set(first, n int) []api.Validator {
	var l []api.Validator
	for at := range n {
		l = append(l, api.Validator{Key: key(first + at), Power: at + 5})
	}
	return l
}

// votes returns votes for these places.
func votes(places ...int) []api.Vote {
	var l []api.Vote
	for _, at := range places {
		l = append(l, api.Vote{At: at, Sig: mix(uint64(at))})
	}
	return l
}

// all returns the places from 0 on, n of them.
func all(n int) []int {
	var l []int
	for at := range n {
		l = append(l, at)
	}
	return l
}

// hashOf returns a hash without a visible pattern.
func hashOf(seed uint64) (h api.Hash) {
	for at := range h {
		h[at] = byte(mix(seed<<8 + uint64(at)))
	}
	return h
}

// hashOfSet and hashOfHeader return the hashes that vals and header tell; none for what is not valid.
func hashOfSet(l []api.Validator) api.Hash {
	h, _ := vals.Hash(l)
	return h
}

func hashOfHeader(h api.Header) api.Hash {
	hash, _ := header.Hash(h)
	return hash
}

// linked returns the linked block with that header, but for its set's hash, with l, and with these votes.
func linked(h api.Header, l []api.Validator, v []api.Vote) api.Block {
	h.Vals = hashOfSet(l)
	return api.Block{H: h, Commit: api.Commit{Height: h.Height, Hash: hashOfHeader(h), Votes: v}, Vals: l}
}

// sealed returns b with the hash of its header in its commit.
func sealed(b api.Block) api.Block {
	b.Commit.Hash = hashOfHeader(b.H)
	return b
}

// clone returns a block like b that shares nothing with it.
func clone(b api.Block) api.Block {
	b.Commit.Votes, b.Vals = slices.Clone(b.Commit.Votes), slices.Clone(b.Vals)
	return b
}

// same returns whether a and b are equal, as the sum of what their parts are.
func same(a, b api.Block) bool {
	if a.H != b.H || a.Commit.Height != b.Commit.Height || a.Commit.Hash != b.Commit.Hash || len(a.Commit.Votes) != len(b.Commit.Votes) || len(a.Vals) != len(b.Vals) {
		return false
	}
	for at := range a.Commit.Votes {
		if a.Commit.Votes[at] != b.Commit.Votes[at] {
			return false
		}
	}
	for at := range a.Vals {
		if a.Vals[at] != b.Vals[at] {
			return false
		}
	}
	return true
}

// headers returns valid headers, whose Vals is any hash.
func headers() []api.Header {
	return []api.Header{
		{Chain: "a", Height: 3, Time: 4}, {Chain: "a", Height: 1}, {Chain: strings.Repeat("z", api.MaxName), Height: api.MaxHeight, Time: api.MaxTime},
		{Chain: "sea-2", Height: 256, Time: 1 << 32, Prev: hashOf(1), Vals: hashOf(2), Next: hashOf(3), App: hashOf(4)},
	}
}

// example returns the block of the chapter, with these votes.
func example(places ...int) api.Block {
	return linked(headers()[0], []api.Validator{{Key: key(1), Power: 5}, {Key: key(2), Power: 7}}, votes(places...))
}

// blocks returns linked blocks, with sets of several sizes, and no, some and all votes.
func blocks() []api.Block {
	l := []api.Block{example(), example(0), example(1), example(0, 1)}
	for _, h := range headers() {
		for _, n := range []int{1, 2, 3, 9, 63, 64} {
			for _, places := range [][]int{nil, {0}, {n - 1}, all(n), all(n - 1)} {
				l = append(l, linked(h, set(n, n), votes(places...)))
			}
		}
		l = append(l, linked(h, []api.Validator{{Power: 1}, {Key: key(1 << 31), Power: api.MaxPower}}, []api.Vote{{At: 1, Sig: 1<<64 - 1}}))
	}
	return l
}

// breaking is how a block is changed so that it isn't linked, and what is told of it then.
type breaking struct {
	turn func(b *api.Block)
	err  api.Errno
}

// none changes nothing.
var none = breaking{func(*api.Block) {}, api.OK}

// The lists of what breaks a block, in the order in which the errors count. Each begins with nothing.

func wrongHeaders() []breaking {
	return []breaking{
		none,
		{func(b *api.Block) { b.H.Chain = "A" }, api.ErrForm},
		{func(b *api.Block) { b.H.Chain = "" }, api.ErrForm},
		{func(b *api.Block) { b.H.Height = 0 }, api.ErrRange},
		{func(b *api.Block) { b.H.Height = api.MaxHeight + 1 }, api.ErrRange},
		{func(b *api.Block) { b.H.Time = -1 }, api.ErrRange},
		{func(b *api.Block) { b.H.Time = api.MaxTime + 1 }, api.ErrRange},
	}
}

func wrongSets() []breaking {
	return []breaking{
		none,
		{func(b *api.Block) { b.Vals = nil }, api.ErrShort},
		{func(b *api.Block) { b.Vals = []api.Validator{} }, api.ErrShort},
		{func(b *api.Block) { b.Vals = set(1, api.MaxVals+1) }, api.ErrLong},
		{func(b *api.Block) { b.Vals = append(b.Vals, b.Vals[0]) }, api.ErrOrder},
		{func(b *api.Block) { b.Vals[1].Power = 0 }, api.ErrRange},
	}
}

func wrongCommits() []breaking {
	return []breaking{
		none,
		{func(b *api.Block) { b.Commit.Height = 0 }, api.ErrRange},
		{func(b *api.Block) { b.Commit.Height = minInt }, api.ErrRange},
		{func(b *api.Block) { b.Commit.Votes = votes(all(api.MaxVals + 1)...) }, api.ErrLong},
		{func(b *api.Block) { b.Commit.Votes = votes(1, 0) }, api.ErrOrder},
		{func(b *api.Block) { b.Commit.Votes = votes(0, 0) }, api.ErrOrder},
		{func(b *api.Block) { b.Commit.Votes = votes(api.MaxVals) }, api.ErrRange},
		{func(b *api.Block) { b.Commit.Votes = votes(-1) }, api.ErrRange},
	}
}

func wrongLinks() []breaking {
	return []breaking{
		none,
		{func(b *api.Block) { b.H.Vals[31]++; *b = sealed(*b) }, api.ErrLink},
		{func(b *api.Block) { b.Commit.Hash[0]++ }, api.ErrLink},
		{func(b *api.Block) { b.H.Time++ }, api.ErrLink},
		{func(b *api.Block) { b.H.Vals, b.Commit.Hash = api.Hash{}, api.Hash{} }, api.ErrLink},
	}
}

func wrongHeights() []breaking {
	return []breaking{
		none,
		{func(b *api.Block) { b.Commit.Height++ }, api.ErrHeight},
		{func(b *api.Block) { b.Commit.Height-- }, api.ErrHeight},
		{func(b *api.Block) { b.Commit.Height = api.MaxHeight }, api.ErrHeight},
	}
}

func wrongPlaces() []breaking {
	return []breaking{
		none,
		{func(b *api.Block) { b.Commit.Votes = votes(2) }, api.ErrRange},
		{func(b *api.Block) { b.Commit.Votes = votes(0, 2) }, api.ErrRange},
		{func(b *api.Block) { b.Commit.Votes = votes(0, 1, 63) }, api.ErrRange},
	}
}

// broken yields the chapter's block with one of each list done to it, and which error counts.
func broken(yield func(b api.Block, err api.Errno) bool, lists ...[]breaking) bool {
	if len(lists) == 0 {
		return yield(example(0, 1), api.OK)
	}
	for _, x := range lists[0] {
		going := broken(func(b api.Block, err api.Errno) bool {
			x.turn(&b)
			if x.err != api.OK {
				err = x.err
			}
			return yield(b, err)
		}, lists[1:]...)
		if !going {
			return false
		}
	}
	return true
}

// P9.1

func TestLinked(t *testing.T) {
	for _, b := range blocks() {
		if err := block.Linked(b); err != api.OK {
			t.Errorf("%v: %v", b, err)
		}
	}
	if err := block.Linked(api.Block{}); err != api.ErrForm {
		t.Errorf("of nothing: %v", err)
	}
}

// TestLinkedNamesTheFirstError has every combination of what breaks a block.
func TestLinkedNamesTheFirstError(t *testing.T) {
	seen := 0
	broken(func(b api.Block, want api.Errno) bool {
		seen++
		if err := block.Linked(b); err != want {
			t.Errorf("%v: %v, not %v", b, err, want)
		}
		return !t.Failed()
	}, wrongHeaders(), wrongSets(), wrongCommits(), wrongLinks(), wrongHeights(), wrongPlaces())
	if seen != 7*6*8*5*4*4 {
		t.Errorf("%d combinations", seen)
	}
}

// TestLinkedNeedsBothHashes has blocks of which one of them is right alone, whatever the other one is.
func TestLinkedNeedsBothHashes(t *testing.T) {
	check := func(b api.Block, what string) {
		t.Helper()
		if err := block.Linked(b); err != api.ErrLink {
			t.Errorf("%s: %v: %v", what, b, err)
		}
	}
	for _, b := range blocks() {
		for bit := range 256 {
			c := clone(b)
			c.H.Vals[bit/8] ^= 1 << (bit % 8)
			check(c, "Vals")
			check(sealed(c), "Vals, sealed")
			c = clone(b)
			c.Commit.Hash[bit/8] ^= 1 << (bit % 8)
			check(c, "Hash")
			for _, hash := range []*api.Hash{&c.H.Prev, &c.H.Next, &c.H.App} {
				c.Commit.Hash = b.Commit.Hash
				hash[bit/8] ^= 1 << (bit % 8)
				check(c, "another header")
				if err := block.Linked(sealed(c)); err != api.OK {
					t.Errorf("%v: %v", c, err)
				}
			}
		}
		c := clone(b)
		c.H.Vals = c.Commit.Hash
		check(sealed(c), "the header's hash as that of the set")
		c = clone(b)
		c.Commit.Hash = c.H.Vals
		check(c, "the set's hash as that of the header")
	}
}

// TestLinkedOfEachPlace has sets of every size with a vote for every place.
func TestLinkedOfEachPlace(t *testing.T) {
	for n := 1; n <= api.MaxVals; n++ {
		for at := range api.MaxVals + 2 {
			want := api.OK
			if at >= n {
				want = api.ErrRange
			}
			if err := block.Linked(linked(headers()[3], set(7, n), votes(at))); err != want {
				t.Errorf("a vote for %d of %d: %v", at, n, err)
			}
			if err := block.Linked(linked(headers()[3], set(7, n), votes(append(all(min(n, at, 63)), at)...))); err != want {
				t.Errorf("votes up to %d of %d: %v", at, n, err)
			}
		}
	}
}

// TestHash has blocks of every kind: only the header matters.
func TestHash(t *testing.T) {
	check := func(b api.Block) {
		t.Helper()
		want, wrong := header.Hash(b.H)
		if h, err := block.Hash(b); h != want || err != wrong {
			t.Errorf("%v: %x, %v, not %x, %v", b, h, err, want, wrong)
		}
	}
	for _, b := range blocks() {
		check(b)
		if h, err := block.Hash(b); h != b.Commit.Hash || err != api.OK {
			t.Errorf("%v: %x, %v", b, h, err)
		}
		check(api.Block{H: b.H})
	}
	broken(func(b api.Block, _ api.Errno) bool {
		check(b)
		return true
	}, wrongHeaders(), wrongSets(), wrongCommits(), wrongLinks())
	if h, err := block.Hash(api.Block{}); h != (api.Hash{}) || err != api.ErrForm {
		t.Errorf("of nothing: %x, %v", h, err)
	}
}

// others returns blocks that differ from b in one thing each.
func others(b api.Block) []api.Block {
	var l []api.Block
	for _, turn := range []func(b *api.Block){
		func(b *api.Block) { b.H.Chain += "a" }, func(b *api.Block) { b.H.Chain = "" }, func(b *api.Block) { b.H.Height++ }, func(b *api.Block) { b.H.Time-- },
		func(b *api.Block) { b.H.Prev[0]++ }, func(b *api.Block) { b.H.Vals[31]++ }, func(b *api.Block) { b.H.Next[7]++ }, func(b *api.Block) { b.H.App[30]++ },
		func(b *api.Block) { b.Commit.Height-- }, func(b *api.Block) { b.Commit.Hash[31]++ },
		func(b *api.Block) { b.Commit.Votes = append(b.Commit.Votes, api.Vote{At: 64}) }, func(b *api.Block) { b.Commit.Votes = append(b.Commit.Votes, api.Vote{}) },
		func(b *api.Block) { b.Vals = append(b.Vals, api.Validator{Key: key(999), Power: 1}) }, func(b *api.Block) { b.Vals = append(b.Vals, api.Validator{}) },
		func(b *api.Block) { b.Vals = b.Vals[:len(b.Vals)-1] }, func(b *api.Block) { b.Vals = b.Vals[1:] },
	} {
		c := clone(b)
		turn(&c)
		l = append(l, c)
	}
	for at := range b.Vals {
		for bit := range 32 {
			c := clone(b)
			c.Vals[at].Key[bit/8] ^= 1 << (bit % 8)
			l = append(l, c)
		}
		c, d := clone(b), clone(b)
		c.Vals[at].Power++
		d.Vals[at].Power = -d.Vals[at].Power
		l = append(l, c, d)
	}
	for at := range b.Commit.Votes {
		c, d, e := clone(b), clone(b), clone(b)
		c.Commit.Votes[at].At++
		d.Commit.Votes[at].Sig ^= 1 << 63
		e.Commit.Votes = slices.Delete(e.Commit.Votes, at, at+1)
		l = append(l, c, d, e)
	}
	return l
}

func TestSame(t *testing.T) {
	for _, b := range append(blocks(), api.Block{}, api.Block{Vals: []api.Validator{{}}}) {
		empty := clone(b)
		empty.Commit.Votes, empty.Vals = append([]api.Vote{}, b.Commit.Votes...), append([]api.Validator{}, b.Vals...)
		spare := clone(b)
		spare.Commit.Votes, spare.Vals = append(spare.Commit.Votes, api.Vote{At: 3})[:len(b.Commit.Votes)], append(spare.Vals, api.Validator{Power: 3})[:len(b.Vals)]
		for _, c := range []api.Block{b, clone(b), empty, spare} {
			if !block.Same(b, c) || !block.Same(c, b) {
				t.Errorf("%v and %v differ", b, c)
			}
		}
		if b.H.Chain == "" {
			continue
		}
		for _, c := range others(b) {
			if block.Same(b, c) || block.Same(c, b) || !block.Same(c, clone(c)) {
				t.Errorf("%v and %v don't differ", b, c)
			}
		}
	}
}

// TestSameOfAll holds each block against each.
func TestSameOfAll(t *testing.T) {
	l := append(blocks(), blocks()...)
	broken(func(b api.Block, _ api.Errno) bool {
		l = append(l, b)
		return true
	}, wrongSets(), wrongCommits(), wrongLinks())
	for _, a := range l {
		for _, b := range l {
			if block.Same(a, b) != same(a, b) {
				t.Errorf("%v, %v: %v", a, b, block.Same(a, b))
			}
		}
	}
}

// P9.2

func TestMake(t *testing.T) {
	for _, h := range headers() {
		for _, n := range []int{1, 2, 3, 63, 64} {
			l := set(n, n)
			b, err := block.Make(h, l)
			want := h
			want.Vals = hashOfSet(l)
			if b.H != want || b.Commit.Height != h.Height || b.Commit.Hash != hashOfHeader(want) || len(b.Commit.Votes) != 0 || !slices.Equal(b.Vals, l) || err != api.OK {
				t.Errorf("Make(%v, %v): %v, %v", h, l, b, err)
			}
		}
	}
}

// TestMakeOfWrongOnes has headers and sets that aren't valid: the set's error counts first.
func TestMakeOfWrongOnes(t *testing.T) {
	for _, badHeader := range wrongHeaders() {
		for _, badSet := range wrongSets() {
			x := example()
			badHeader.turn(&x)
			badSet.turn(&x)
			want := badHeader.err
			if badSet.err != api.OK {
				want = badSet.err
			}
			b, err := block.Make(x.H, x.Vals)
			if err != want || err != api.OK && !same(b, api.Block{}) {
				t.Errorf("Make(%v, %v): %v, %v, not %v", x.H, x.Vals, b, err, want)
			}
		}
	}
	if b, err := block.Make(api.Header{}, nil); err != api.ErrShort || !same(b, api.Block{}) {
		t.Errorf("of nothing: %v, %v", b, err)
	}
}

// spare returns a list like l with n more behind it, in its spare capacity, and all of them.
func spare[T any](l []T, n int) (part, whole []T) {
	whole = append(slices.Clone(l), make([]T, n)...)
	return whole[:len(l)], whole
}

// TestMadeBlocksAreNew changes what was given, and what was made.
func TestMadeBlocksAreNew(t *testing.T) {
	want := example()
	given, whole := spare(want.Vals, 3)
	before := slices.Clone(whole)
	a, _ := block.Make(want.H, given)
	b, _ := block.Make(want.H, given)
	if !slices.Equal(whole, before) {
		t.Errorf("the set was changed: %v", whole)
	}
	clear(a.Vals[:cap(a.Vals)])
	if !same(b, want) || !slices.Equal(whole, before) {
		t.Errorf("after a block was changed: %v, %v", b, whole)
	}
	clear(whole)
	if !same(b, want) {
		t.Errorf("after the set was changed: %v", b)
	}
}

// TestArgumentsStayAsTheyAre has something in the spare capacity of what is asked about.
func TestArgumentsStayAsTheyAre(t *testing.T) {
	check := func(x api.Block) {
		t.Helper()
		given := x
		var someVotes []api.Vote
		var someVals []api.Validator
		given.Commit.Votes, someVotes = spare(x.Commit.Votes, 2)
		given.Vals, someVals = spare(x.Vals, 2)
		votesBefore, valsBefore := slices.Clone(someVotes), slices.Clone(someVals)
		block.Linked(given)
		block.Hash(given)
		block.Same(given, given)
		block.Make(given.H, given.Vals)
		block.Encode(given)
		if !slices.Equal(someVotes, votesBefore) || !slices.Equal(someVals, valsBefore) {
			t.Errorf("%v: %v, %v", x, someVotes, someVals)
		}
	}
	for _, b := range blocks() {
		check(b)
	}
	broken(func(b api.Block, _ api.Errno) bool {
		check(b)
		return true
	}, wrongSets(), wrongCommits(), wrongPlaces())
}

// P9.4

// TestMadeBlocksAreLinked has them with every choice of votes for their places, for small sets, and with some of them for great ones.
func TestMadeBlocksAreLinked(t *testing.T) {
	for _, h := range headers() {
		for _, n := range []int{1, 2, 3, 4, 5, 6, 40, 63, 64} {
			b, _ := block.Make(h, set(3, n))
			for turn := range uint64(1) << min(n, 6) {
				chosen := turn
				if n > 6 {
					chosen = mix(turn)
				}
				var places []int
				for at := range n {
					if chosen>>at&1 == 1 {
						places = append(places, at)
					}
				}
				b.Commit.Votes = votes(places...)
				if err := block.Linked(b); err != api.OK {
					t.Errorf("%v: %v", b, err)
				}
			}
		}
	}
}

// TestLinkedBlocksWithAnotherPart aren't linked, but with all that belongs to that part.
func TestLinkedBlocksWithAnotherPart(t *testing.T) {
	l := blocks()
	for _, a := range l {
		for _, b := range l {
			c := clone(a)
			c.H = b.H
			if linked := block.Linked(c) == api.OK; linked != (c.H == a.H) {
				t.Errorf("%v with the header of %v: %v", a, b, linked)
			}
			c = clone(a)
			c.Vals = b.Vals
			if linked := block.Linked(c) == api.OK; linked != slices.Equal(a.Vals, b.Vals) {
				t.Errorf("%v with the set of %v: %v", a, b, linked)
			}
			c = clone(a)
			c.H.Vals, c.Vals = b.H.Vals, b.Vals
			if linked := block.Linked(c) == api.OK; linked != slices.Equal(a.Vals, b.Vals) {
				t.Errorf("%v with the set of %v, and its hash: %v", a, b, linked)
			}
		}
		for _, height := range []int{1, 2, 3, 4, 255, 256, 257, api.MaxHeight - 1, api.MaxHeight} {
			c, d := clone(a), clone(a)
			c.Commit.Height, d.H.Height = height, height
			if linked := block.Linked(c) == api.OK; linked != (height == a.H.Height) {
				t.Errorf("%v with votes of the height %d: %v", a, height, linked)
			}
			if linked := block.Linked(d) == api.OK; linked != (height == a.H.Height) {
				t.Errorf("%v with a header of the height %d: %v", a, height, linked)
			}
		}
	}
}
