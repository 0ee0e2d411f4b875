package commit

import (
	"cmp"
	"slices"

	"landfall/api"
)

// Add returns c with one more vote.
func Add(c api.Commit, v api.Vote) (api.Commit, api.Errno) {
	if err := Check(c); err != api.OK {
		return api.Commit{}, err
	}
	if !isPlace(v.At) {
		return api.Commit{}, api.ErrRange
	}
	at, has := find(c.Votes, v.At)
	if has {
		return api.Commit{}, api.ErrDouble
	}
	c.Votes = slices.Insert(slices.Clone(c.Votes), at, v)
	return c, api.OK
}

// Join returns the commit that has all votes of a and of b.
func Join(a, b api.Commit) (api.Commit, api.Errno) {
	for _, c := range []api.Commit{a, b} {
		if err := Check(c); err != api.OK {
			return api.Commit{}, err
		}
	}
	if a.Height != b.Height || a.Hash != b.Hash {
		return api.Commit{}, api.ErrOrder
	}
	votes, err := merge(a.Votes, b.Votes)
	if err != api.OK {
		return api.Commit{}, err
	}
	return api.Commit{Height: a.Height, Hash: a.Hash, Votes: votes}, api.OK
}

// merge returns the votes of all lists in order, unless two of them for one place differ.
func merge(lists ...[]api.Vote) ([]api.Vote, api.Errno) {
	var all []api.Vote
	err := api.OK
lists:
	for _, l := range lists {
		for _, v := range l {
			at, has := find(all, v.At)
			if !has {
				all = slices.Insert(all, at, v)
			} else if all[at] != v {
				all, err = nil, api.ErrDouble
				break lists
			}
		}
	}
	return all, err
}

// find returns where the vote for a place is, or belongs, among votes in order, and whether there is one.
func find(l []api.Vote, place int) (int, bool) {
	return slices.BinarySearchFunc(l, place, func(v api.Vote, place int) int { return cmp.Compare(v.At, place) })
}
