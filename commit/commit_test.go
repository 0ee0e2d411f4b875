package commit_test

import (
	"math"
	"slices"
	"testing"

	"landfall/api"
	"landfall/commit"
)

const (
	maxInt = math.MaxInt
	minInt = math.MinInt
)

// h is the hash of most commits here.
var h = api.Hash{1}

// mix returns the next number of a fixed sequence without a visible pattern.
func mix(x uint64) uint64 {
	x += 0x9e3779b97f4a7c15
	x = (x ^ x>>30) * 0xbf58476d1ce4e5b9
	x = (x ^ x>>27) * 0x94d049bb133111eb
	return x ^ x>>31
}

// of returns a commit for h: places and signatures in turns.
func of(height int, l ...int) api.Commit {
	c := api.Commit{Height: height, Hash: h}
	for at := 0; at < len(l); at += 2 {
		c.Votes = append(c.Votes, api.Vote{At: l[at], Sig: uint64(l[at+1])})
	}
	return c
}

// many returns a commit with n votes, for the places from the first one on.
func many(height, first, n int) api.Commit {
	c := api.Commit{Height: height, Hash: h}
	for at := range n {
		c.Votes = append(c.Votes, api.Vote{At: first + at, Sig: mix(uint64(first + at))})
	}
	return c
}

// some returns a valid commit without a visible pattern.
func some(seed uint64) api.Commit {
	c := api.Commit{Height: 1 + int(mix(seed)>>(34+seed%30))}
	for at := range c.Hash {
		c.Hash[at] = byte(mix(seed<<8 + uint64(at)))
	}
	for at := range api.MaxVals {
		if x := mix(seed<<16 + uint64(at)); x%8 <= seed%9 {
			c.Votes = append(c.Votes, api.Vote{At: at, Sig: mix(x) >> (x >> 8 % 64)})
		}
	}
	return c
}

// same reports whether both are the same; no votes are the same, nil or empty.
func same(a, b api.Commit) bool {
	return a.Height == b.Height && a.Hash == b.Hash && slices.Equal(a.Votes, b.Votes)
}

// heights and noHeights return those that are in range, and that are not: at the edges of the range, and of the numbers' forms.
func heights() []int {
	return []int{1, 2, 3, 255, 256, 257, 1<<16 - 1, 1 << 16, 1<<24 - 1, 1 << 24, api.MaxHeight - 1, api.MaxHeight}
}

func noHeights() []int {
	return []int{0, -1, -2, minInt, api.MaxHeight + 1, api.MaxHeight + 2, 1 << 31, 1 << 32, 1<<32 + 1, maxInt}
}

// noPlaces returns places that no vote may have.
func noPlaces() []int {
	return []int{-1, -2, -64, minInt, 64, 65, 127, 255, 256, 1 << 32, 1<<32 + 3, maxInt}
}

// valid returns valid commits: of every height at an edge, with every number of votes, and with votes for every place.
func valid() []api.Commit {
	l := []api.Commit{of(5), of(5, 0, 7, 3, 9), {Height: 1}, {Height: 9, Hash: api.Hash{31: 1}, Votes: []api.Vote{}}, of(1, 0, 0, 63, 0), of(1, 0, -1, 1, minInt, 62, maxInt, 63, 1)}
	for _, height := range heights() {
		l = append(l, of(height), of(height, 5, 6), many(height, 0, 64))
	}
	for n := range 65 {
		l = append(l, many(7, 0, n), many(7, 64-n, n))
	}
	for at := range 64 {
		l = append(l, of(8, at, at))
	}
	for seed := range uint64(100) {
		l = append(l, some(seed))
	}
	return l
}

// wrong is a commit that is not valid, and why.
type wrong struct {
	c   api.Commit
	err api.Errno
}

// wrongs returns commits that are not valid for each reason, and for several at once.
func wrongs() []wrong {
	l := []wrong{
		{api.Commit{}, api.ErrRange}, {of(5, 3, 1, 3, 1), api.ErrOrder}, {of(5, 3, 1, 3, 2), api.ErrOrder}, {of(5, 3, 1, 2, 1), api.ErrOrder}, {of(5, 0, 1, 0, 1), api.ErrOrder},
		{of(5, 63, 1, 0, 1), api.ErrOrder}, {of(5, 0, 1, 3, 1, 2, 1, 4, 1), api.ErrOrder}, {of(5, 0, 1, 3, 1, 1, 1, 2, 1), api.ErrOrder}, {of(5, 63, 1, 63, 1), api.ErrOrder},
		// the first vote that is wrong counts, and its place before its order
		{of(5, 3, 1, -1, 1), api.ErrRange}, {of(5, 3, 1, 2, 1, 64, 1), api.ErrOrder}, {of(5, 3, 1, 64, 1, 2, 1), api.ErrRange}, {of(5, -1, 1, -1, 1), api.ErrRange}, {of(5, 64, 1, 64, 1), api.ErrRange}, {of(5, 3, 1, 3, 1, -1, 1), api.ErrOrder},
		{many(5, 0, 65), api.ErrLong}, {many(5, 0, 66), api.ErrLong}, {many(5, 0, 1000), api.ErrLong}, {many(5, -1, 65), api.ErrLong}, {many(5, 64, 65), api.ErrLong}, {many(5, -1, 64), api.ErrRange}, {many(5, 1, 64), api.ErrRange},
		{api.Commit{Height: 5, Votes: make([]api.Vote, 65)}, api.ErrLong}, {api.Commit{Height: 5, Votes: make([]api.Vote, 64)}, api.ErrOrder},
	}
	for _, height := range noHeights() {
		l = append(l, wrong{of(height), api.ErrRange}, wrong{of(height, 0, 7), api.ErrRange}, wrong{many(height, 0, 65), api.ErrRange}, wrong{of(height, 3, 1, 2, 1), api.ErrRange})
	}
	for _, at := range noPlaces() {
		l = append(l, wrong{of(5, at, 1), api.ErrRange}, wrong{of(5, 0, 1, at, 1), api.ErrRange}, wrong{of(5, 0, 1, 63, 2, at, 1), api.ErrRange}, wrong{of(5, at, 1, 0, 1), api.ErrRange})
	}
	return l
}

// P7.1

func TestCheck(t *testing.T) {
	for _, c := range valid() {
		if err := commit.Check(c); err != api.OK {
			t.Errorf("%v: %v", c, err)
		}
	}
	for _, r := range wrongs() {
		if err := commit.Check(r.c); err != r.err {
			t.Errorf("%v: %v, not %v", r.c, err, r.err)
		}
	}
}

// TestCheckOfThreePlaces has every three of some places, held against the ranges and the order of each vote.
func TestCheckOfThreePlaces(t *testing.T) {
	places := []int{-2, -1, 0, 1, 2, 31, 62, 63, 64, 65}
	want := func(l ...int) api.Errno {
		for at, place := range l {
			if place < 0 || place > 63 {
				return api.ErrRange
			}
			if at > 0 && place <= l[at-1] {
				return api.ErrOrder
			}
		}
		return api.OK
	}
	for _, a := range places {
		for _, b := range places {
			for _, c := range places {
				if err := commit.Check(of(5, a, 1, b, 2, c, 3)); err != want(a, b, c) {
					t.Errorf("%d, %d, %d: %v, not %v", a, b, c, err, want(a, b, c))
				}
			}
		}
	}
}

// checkOf reports whether the votes of c have that signature for a place, or none.
func checkOf(t *testing.T, c api.Commit, at int, want uint64, has bool) {
	t.Helper()
	if sig, is := commit.Of(c, at); sig != want || is != has {
		t.Errorf("Of(%v, %d): %v, %v, not %v, %v", c, at, sig, is, want, has)
	}
}

func TestOf(t *testing.T) {
	checkOf(t, of(5, 0, 7, 3, 9), 3, 9, true)
	checkOf(t, of(5, 0, 7, 3, 9), 0, 7, true)
	checkOf(t, of(5, 0, 7, 3, 9), 1, 0, false)
	checkOf(t, of(5, 0, 7, 3, 9), 4, 0, false)
	checkOf(t, of(5, 0, 7, 3, 9), 7, 0, false)
	checkOf(t, of(5), 0, 0, false)
	checkOf(t, of(5, 0, 0), 0, 0, true)
	checkOf(t, of(5, 2, -1), 2, math.MaxUint64, true)
	checkOf(t, api.Commit{}, 0, 0, false)
	for _, c := range valid() {
		for at := -2; at < 70; at++ {
			place := slices.IndexFunc(c.Votes, func(v api.Vote) bool { return v.At == at })
			if place < 0 {
				checkOf(t, c, at, 0, false)
			} else {
				checkOf(t, c, at, c.Votes[place].Sig, true)
			}
		}
		for _, at := range noPlaces() {
			checkOf(t, c, at, 0, false)
		}
	}
}

// TestOfInvalidCommits has votes in any order, several for one place, for places that no set has, and too many.
func TestOfInvalidCommits(t *testing.T) {
	for _, height := range append(noHeights(), 5) {
		checkOf(t, of(height, 3, 1, 3, 2), 3, 1, true)
		checkOf(t, of(height, 3, 1, 2, 4, 3, 2, 2, 5), 2, 4, true)
		checkOf(t, of(height, 3, 0, 3, 2), 3, 0, true)
		for _, c := range []api.Commit{of(height, 9, 1, 8, 2, 7, 3, 6, 4, 5, 5), of(height, 7, 3, 9, 1, 5, 5, 8, 2, 6, 4), of(height, 5, 5, 9, 1, 9, 2, 8, 2, 8, 1, 7, 3, 7, 1, 6, 4)} {
			for at := 5; at < 10; at++ {
				checkOf(t, c, at, uint64(10-at), true)
			}
			checkOf(t, c, 4, 0, false)
			checkOf(t, c, 10, 0, false)
		}
		for _, at := range noPlaces() {
			checkOf(t, of(height, 0, 1, at, 7, at, 8, 1, 2), at, 7, true)
			checkOf(t, of(height, 0, 1, at, 7, at, 8, 1, 2), 1, 2, true)
		}
		for at := -5; at < 195; at++ {
			checkOf(t, many(height, -5, 200), at, mix(uint64(at)), true)
		}
	}
}
