package commit_test

import (
	"slices"
	"testing"

	"landfall/api"
	"landfall/commit"
)

// checkAdd reports whether c with one more vote is want, or that error.
func checkAdd(t *testing.T, c api.Commit, v api.Vote, want api.Commit, err api.Errno) {
	t.Helper()
	if got, e := commit.Add(c, v); !same(got, want) || e != err {
		t.Errorf("Add(%v, %v): %v, %v, not %v, %v", c, v, got, e, want, err)
	}
}

// checkJoin reports whether a and b together are want, or have that error.
func checkJoin(t *testing.T, a, b, want api.Commit, err api.Errno) {
	t.Helper()
	if got, e := commit.Join(a, b); !same(got, want) || e != err {
		t.Errorf("Join(%v, %v): %v, %v, not %v, %v", a, b, got, e, want, err)
	}
}

// set returns n validators; their keys have no order, and the power of each is 0.
func set(n int) []api.Validator {
	l := make([]api.Validator, n)
	for at := range l {
		x := mix(uint64(at))
		l[at].Key = api.Key{byte(x), byte(x >> 8), byte(x >> 16), byte(at)}
	}
	return l
}

// spare returns the votes of c with n more behind them in the spare capacity, and all of them.
func spare(c api.Commit, n int) (api.Commit, []api.Vote) {
	all := slices.Clone(c.Votes)
	for at := range n {
		all = append(all, api.Vote{At: -at, Sig: mix(uint64(at))})
	}
	c.Votes = all[:len(c.Votes)]
	return c, all
}

// with returns c with a vote more, put in its place by sorting.
func with(c api.Commit, v api.Vote) api.Commit {
	c.Votes = append(slices.Clone(c.Votes), v)
	slices.SortFunc(c.Votes, func(a, b api.Vote) int { return a.At - b.At })
	return c
}

// P7.3

func TestAdd(t *testing.T) {
	vote := func(at int, sig uint64) api.Vote { return api.Vote{At: at, Sig: sig} }
	checkAdd(t, of(5, 3, 9), vote(0, 7), of(5, 0, 7, 3, 9), api.OK)
	checkAdd(t, of(5, 3, 9), vote(4, 7), of(5, 3, 9, 4, 7), api.OK)
	checkAdd(t, of(5, 0, 1, 63, 2), vote(31, 3), of(5, 0, 1, 31, 3, 63, 2), api.OK)
	checkAdd(t, of(5), vote(0, 0), of(5, 0, 0), api.OK)
	checkAdd(t, of(5), vote(63, 1), of(5, 63, 1), api.OK)
	checkAdd(t, of(5, 3, 9), vote(3, 9), api.Commit{}, api.ErrDouble)
	checkAdd(t, of(5, 3, 9), vote(3, 8), api.Commit{}, api.ErrDouble)
	checkAdd(t, of(5, 3, 0), vote(3, 0), api.Commit{}, api.ErrDouble)
	checkAdd(t, of(5), vote(-1, 1), api.Commit{}, api.ErrRange)
	for _, c := range valid() {
		for at := range 64 {
			if _, has := commit.Of(c, at); has {
				checkAdd(t, c, vote(at, 7), api.Commit{}, api.ErrDouble)
			} else {
				checkAdd(t, c, vote(at, 7), with(c, vote(at, 7)), api.OK)
			}
		}
		for _, at := range noPlaces() {
			checkAdd(t, c, vote(at, 7), api.Commit{}, api.ErrRange)
		}
	}
}

// TestAddToWrongCommits has votes that might be added, that are there, and that no commit has: the error of Check comes first.
func TestAddToWrongCommits(t *testing.T) {
	for _, r := range wrongs() {
		for _, at := range []int{-1, 0, 1, 3, 63, 64} {
			checkAdd(t, r.c, api.Vote{At: at, Sig: 1}, api.Commit{}, r.err)
		}
	}
	checkAdd(t, of(5, 3, 9, 2, 9), api.Vote{At: -1}, api.Commit{}, api.ErrOrder)
	checkAdd(t, many(5, 0, 65), api.Vote{At: 64}, api.Commit{}, api.ErrLong)
}

// TestAddLeavesItsArguments has something in the spare capacity, and writes over all that is returned.
func TestAddLeavesItsArguments(t *testing.T) {
	for _, c := range valid() {
		for _, at := range []int{0, 5, 31, 63} {
			v := api.Vote{At: at, Sig: 7}
			given, all := spare(c, 3)
			before := slices.Clone(all)
			got, err := commit.Add(given, v)
			if err != api.OK {
				continue
			}
			if !slices.Equal(all, before) {
				t.Errorf("Add(%v, %v) changed what it was given: %v", c, v, all)
			}
			clear(all)
			if !same(got, with(c, v)) {
				t.Errorf("Add(%v, %v) was kept: %v", c, v, got)
			}
			copy(all, before)
			clear(got.Votes[:cap(got.Votes)])
			if !slices.Equal(all, before) {
				t.Errorf("Add(%v, %v) returned what it was given", c, v)
			}
		}
	}
}

func TestWho(t *testing.T) {
	check := func(c api.Commit, l []api.Validator, want []api.Key, err api.Errno) {
		t.Helper()
		if keys, e := commit.Who(c, l); !slices.Equal(keys, want) || e != err {
			t.Errorf("Who(%v, %v): %v, %v, not %v, %v", c, l, keys, e, want, err)
		}
	}
	abc := []api.Validator{{Key: api.Key{'a'}, Power: 1}, {Key: api.Key{'b'}, Power: 1}, {Key: api.Key{'c'}, Power: 1}}
	check(of(5, 0, 7, 2, 9), abc, []api.Key{{'a'}, {'c'}}, api.OK)
	check(of(5, 0, 7, 1, 7, 2, 9), abc, []api.Key{{'a'}, {'b'}, {'c'}}, api.OK)
	check(of(5, 1, 0), abc, []api.Key{{'b'}}, api.OK)
	check(of(5), abc, nil, api.OK)
	check(of(5), nil, nil, api.OK)
	check(of(5, 3, 9), abc, nil, api.ErrRange)
	check(of(5, 0, 7, 3, 9), abc, nil, api.ErrRange)
	check(of(5, 0, 7, 63, 9), abc, nil, api.ErrRange)
	check(of(5, 0, 7), nil, nil, api.ErrRange)
	check(of(5, 0, 7), abc[:0], nil, api.ErrRange)
	for _, r := range wrongs() {
		check(r.c, abc, nil, r.err)
		check(r.c, set(100), nil, r.err)
		check(r.c, nil, nil, r.err)
	}
	for _, c := range valid() {
		for _, n := range []int{0, 1, 2, 5, 31, 62, 63, 64, 65, 100} {
			l, err := set(n), api.OK
			var want []api.Key
			for _, v := range c.Votes {
				if v.At < n && err == api.OK {
					want = append(want, l[v.At].Key)
				} else {
					want, err = nil, api.ErrRange
				}
			}
			check(c, l, want, err)
		}
	}
}

// TestWhoOfAnyList has validators that are no set: doubles, in no order, with any power; and something behind them.
func TestWhoOfAnyList(t *testing.T) {
	l := []api.Validator{{Key: api.Key{9}, Power: -1}, {Key: api.Key{9}, Power: maxInt}, {}, {Key: api.Key{3}}, {Key: api.Key{77}}, {Key: api.Key{78}}}
	before := slices.Clone(l)
	keys, err := commit.Who(of(5, 0, 1, 1, 2, 2, 3, 3, 4), l[:4])
	if want := []api.Key{{9}, {9}, {}, {3}}; !slices.Equal(keys, want) || err != api.OK {
		t.Errorf("%v, %v", keys, err)
	}
	if keys, err := commit.Who(of(5, 0, 1, 4, 2), l[:4]); len(keys) > 0 || err != api.ErrRange {
		t.Errorf("%v, %v: what is behind the list was read", keys, err)
	}
	clear(keys[:cap(keys)])
	if !slices.Equal(l, before) {
		t.Errorf("changed: %v", l)
	}
}

func TestJoin(t *testing.T) {
	checkJoin(t, of(5, 0, 7), of(5, 0, 7, 3, 9), of(5, 0, 7, 3, 9), api.OK)
	checkJoin(t, of(5, 0, 7, 3, 9), of(5, 0, 7), of(5, 0, 7, 3, 9), api.OK)
	checkJoin(t, of(5, 3, 9), of(5, 1, 2), of(5, 1, 2, 3, 9), api.OK)
	checkJoin(t, of(5, 0, 1, 4, 2), of(5, 2, 3, 63, 4), of(5, 0, 1, 2, 3, 4, 2, 63, 4), api.OK)
	checkJoin(t, of(5), of(5, 1, 2), of(5, 1, 2), api.OK)
	checkJoin(t, of(5, 1, 2), of(5), of(5, 1, 2), api.OK)
	checkJoin(t, of(5), of(5), of(5), api.OK)
	checkJoin(t, of(5, 0, 7), of(5, 0, 8), api.Commit{}, api.ErrDouble)
	checkJoin(t, of(5, 0, 0), of(5, 0, 8), api.Commit{}, api.ErrDouble)
	checkJoin(t, of(5, 0, 1, 2, 3, 4, 5), of(5, 1, 1, 2, 3, 4, 6), api.Commit{}, api.ErrDouble)
	checkJoin(t, of(5, 0, 1, 2, 3), of(5, 0, 2, 2, 3, 3, 4), api.Commit{}, api.ErrDouble)
	checkJoin(t, of(5), of(6), api.Commit{}, api.ErrOrder)
	checkJoin(t, of(5, 0, 7), of(6, 0, 7), api.Commit{}, api.ErrOrder)
	checkJoin(t, of(6, 0, 7), of(5, 1, 7), api.Commit{}, api.ErrOrder)
	for at := range 64 {
		checkJoin(t, many(5, 0, at), many(5, at, 64-at), many(5, 0, 64), api.OK)
		checkJoin(t, many(5, at, 64-at), many(5, 0, at), many(5, 0, 64), api.OK)
		checkJoin(t, many(5, 0, 64), many(5, 0, at), many(5, 0, 64), api.OK)
		checkJoin(t, many(5, 0, 64), of(5, at, 7), api.Commit{}, api.ErrDouble)
		checkJoin(t, of(5, at, 7), many(5, 0, 64), api.Commit{}, api.ErrDouble)
	}
}

// TestJoinOfEachHash has hashes that differ at one place.
func TestJoinOfEachHash(t *testing.T) {
	a := of(5, 0, 7)
	for at := range a.Hash {
		b := a
		b.Hash[at] ^= 0x80
		checkJoin(t, a, b, api.Commit{}, api.ErrOrder)
		checkJoin(t, b, a, api.Commit{}, api.ErrOrder)
		checkJoin(t, b, b, b, api.OK)
	}
}

// TestJoinOfWrongCommits has errors of the first one, of the second one, and of both; ErrOrder, too, comes before ErrDouble.
func TestJoinOfWrongCommits(t *testing.T) {
	for _, r := range wrongs() {
		checkJoin(t, r.c, of(5, 0, 7), api.Commit{}, r.err)
		checkJoin(t, of(5, 0, 7), r.c, api.Commit{}, r.err)
		checkJoin(t, of(6, 3, 2, 4, 7), r.c, api.Commit{}, r.err)
		checkJoin(t, r.c, of(6, 3, 2, 4, 7), api.Commit{}, r.err)
		for _, other := range wrongs()[:30] {
			checkJoin(t, r.c, other.c, api.Commit{}, r.err)
			checkJoin(t, other.c, r.c, api.Commit{}, other.err)
		}
	}
	checkJoin(t, of(5, 0, 7), of(6, 0, 8), api.Commit{}, api.ErrOrder)
}

// TestJoinLeavesItsArguments has something in the spare capacity of both, and writes over all that is returned.
func TestJoinLeavesItsArguments(t *testing.T) {
	for seed := range uint64(200) {
		a, b := parts(seed)
		want := both(a, b)
		givenA, allA := spare(a, 64)
		givenB, allB := spare(b, 64)
		beforeA, beforeB := slices.Clone(allA), slices.Clone(allB)
		got, err := commit.Join(givenA, givenB)
		if !slices.Equal(allA, beforeA) || !slices.Equal(allB, beforeB) || err != api.OK {
			t.Errorf("Join(%v, %v), %v changed what it was given: %v, %v", a, b, err, allA, allB)
		}
		clear(allA)
		clear(allB)
		if !same(got, want) {
			t.Errorf("Join(%v, %v) was kept: %v", a, b, got)
		}
		copy(allA, beforeA)
		copy(allB, beforeB)
		clear(got.Votes[:cap(got.Votes)])
		if !slices.Equal(allA, beforeA) || !slices.Equal(allB, beforeB) {
			t.Errorf("Join(%v, %v) returned what it was given", a, b)
		}
	}
}

// P7.4

// parts returns two commits of votes of one, without a visible pattern, some of them of both.
func parts(seed uint64) (a, b api.Commit) {
	whole := some(seed)
	a, b = whole, whole
	a.Votes, b.Votes = nil, nil
	for at, v := range whole.Votes {
		x := mix(seed<<8+uint64(at)) >> 8 % 4
		if x != 0 {
			a.Votes = append(a.Votes, v)
		}
		if x != 1 && x != 2 {
			b.Votes = append(b.Votes, v)
		}
	}
	return a, b
}

// both returns a with the votes of b, by a list that has each place.
func both(a, b api.Commit) api.Commit {
	var sigs [64][]api.Vote
	for _, v := range slices.Concat(a.Votes, b.Votes) {
		sigs[v.At] = []api.Vote{v}
	}
	return api.Commit{Height: a.Height, Hash: a.Hash, Votes: slices.Concat(sigs[:]...)}
}

// added returns c with all votes, one after the other.
func added(t *testing.T, c api.Commit, l []api.Vote) api.Commit {
	t.Helper()
	for _, v := range l {
		var err api.Errno
		if c, err = commit.Add(c, v); err != api.OK {
			t.Fatalf("Add(.., %v): %v", v, err)
		}
	}
	return c
}

// TestEveryOrderOfSixVotes adds them in each of the 720 orders.
func TestEveryOrderOfSixVotes(t *testing.T) {
	want := of(5, 0, 7, 3, 9, 4, 9, 5, 0, 31, 1, 63, 2)
	l := slices.Clone(want.Votes)
	var orders func(n int)
	orders = func(n int) {
		if n == 0 {
			if got := added(t, of(5), l); !same(got, want) {
				t.Errorf("%v: %v", l, got)
			}
			return
		}
		for at := range n {
			l[at], l[n-1] = l[n-1], l[at]
			orders(n - 1)
			l[at], l[n-1] = l[n-1], l[at]
		}
	}
	orders(len(l))
}

// TestOrdersOfManyVotes adds up to 64 votes in orders without a visible pattern, up and down.
func TestOrdersOfManyVotes(t *testing.T) {
	for seed := range uint64(300) {
		want := some(seed)
		l := slices.Clone(want.Votes)
		for n := uint64(len(l)); n > 1; n-- {
			at := mix(seed<<8+n) % n
			l[at], l[n-1] = l[n-1], l[at]
		}
		empty := api.Commit{Height: want.Height, Hash: want.Hash}
		down := slices.Clone(want.Votes)
		slices.Reverse(down)
		for _, order := range [][]api.Vote{l, want.Votes, down} {
			if got := added(t, empty, order); !same(got, want) {
				t.Errorf("%v: %v, not %v", order, got, want)
			}
		}
	}
}

// TestJoins has joins in either order, twice, of three in every order, and held against votes that are added.
func TestJoins(t *testing.T) {
	join := func(a, b api.Commit) api.Commit {
		c, err := commit.Join(a, b)
		if err != api.OK {
			t.Errorf("Join(%v, %v): %v", a, b, err)
		}
		return c
	}
	for seed := range uint64(300) {
		a, b := parts(seed)
		c := a
		c.Votes = some(seed).Votes[len(some(seed).Votes)/2:]
		want := both(a, b)
		for _, got := range []api.Commit{join(a, b), join(b, a), join(join(a, b), b), join(join(b, a), b), join(a, join(a, b)), join(want, want)} {
			if !same(got, want) {
				t.Errorf("%v, %v: %v, not %v", a, b, got, want)
			}
		}
		all := both(want, c)
		for _, got := range []api.Commit{join(a, join(b, c)), join(join(a, b), c), join(join(c, a), b), join(join(c, b), join(b, a))} {
			if !same(got, all) {
				t.Errorf("%v, %v, %v: %v, not %v", a, b, c, got, all)
			}
		}
		if !same(join(a, a), a) || !same(join(b, b), b) {
			t.Errorf("with itself: %v, %v", a, b)
		}
		more := slices.DeleteFunc(slices.Clone(b.Votes), func(v api.Vote) bool { return slices.Contains(a.Votes, v) })
		if got := added(t, a, more); !same(got, want) {
			t.Errorf("%v and %v: %v, not %v", a, more, got, want)
		}
	}
}

// TestJoinsOfDifferentVotes has one signature that differs, at each place that both have: either order is refused.
func TestJoinsOfDifferentVotes(t *testing.T) {
	for seed := range uint64(60) {
		whole := some(seed)
		for at := range whole.Votes {
			other := whole
			other.Votes = slices.Clone(whole.Votes)
			other.Votes[at].Sig ^= 1 << (seed % 64)
			checkJoin(t, whole, other, api.Commit{}, api.ErrDouble)
			checkJoin(t, other, whole, api.Commit{}, api.ErrDouble)
		}
	}
}
