package commit

import (
	"landfall/api"
	"landfall/wire"
)

// Encode returns the bytes of a commit.
func Encode(c api.Commit) ([]byte, api.Errno) {
	if err := Check(c); err != api.OK {
		return nil, err
	}
	w, err := wire.NewWriter(api.MaxWire)
	if err != api.OK {
		return nil, err
	}
	w.Num(c.Height)
	w.Hash(c.Hash)
	w.Num(len(c.Votes))
	for _, v := range c.Votes {
		w.Num(v.At)
		w.Word(v.Sig)
	}
	return w.Done()
}

// Decode returns the commit whose bytes b are, or what is wrong with them, and where.
func Decode(b []byte) (api.Commit, api.Fault) {
	r := wire.NewReader(b)
	// After its first fault the reader reads zeros, and End returns that fault.
	c := api.Commit{Height: r.Num(), Hash: r.Hash()}
	counted := len(b) - r.Rest()
	n := r.Num()
	if n > api.MaxVals {
		return api.Commit{}, api.Fault{Err: api.ErrLong, At: counted}
	}
	c.Votes = make([]api.Vote, n)
	for at := range c.Votes {
		c.Votes[at] = api.Vote{At: r.Num(), Sig: r.Word()}
	}
	if fault := r.End(); fault.Err != api.OK {
		return api.Commit{}, fault
	}
	if err := Check(c); err != api.OK {
		return api.Commit{}, api.Fault{Err: err}
	}
	return c, api.Fault{}
}
