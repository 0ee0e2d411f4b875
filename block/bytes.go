package block

import (
	"landfall/api"
	"landfall/commit"
	"landfall/header"
	"landfall/vals"
	"landfall/wire"
)

// Encode returns the bytes of a block.
func Encode(b api.Block) ([]byte, api.Errno) {
	h, err := header.Encode(b.H)
	if err != api.OK {
		return nil, err
	}
	// The set's error counts ahead of the commit's, though its bytes come after them.
	set, err := vals.Encode(b.Vals)
	if err != api.OK {
		return nil, err
	}
	votes, err := commit.Encode(b.Commit)
	if err != api.OK {
		return nil, err
	}
	w, err := wire.NewWriter(api.MaxWire)
	if err != api.OK {
		return nil, err
	}
	w.Bytes(h)
	w.Bytes(votes)
	w.Bytes(set)
	return w.Done()
}

// Decode returns the block whose bytes b are, or what is wrong with them, and where.
func Decode(b []byte) (api.Block, api.Fault) {
	r := wire.NewReader(b)
	h, fault := read(r, len(b), header.Decode)
	if fault.Err != api.OK {
		return api.Block{}, fault
	}
	votes, fault := read(r, len(b), commit.Decode)
	if fault.Err != api.OK {
		return api.Block{}, fault
	}
	set, fault := read(r, len(b), vals.Decode)
	if fault.Err != api.OK {
		return api.Block{}, fault
	}
	if fault := r.End(); fault.Err != api.OK {
		return api.Block{}, fault
	}
	return api.Block{H: h, Commit: votes, Vals: set}, api.Fault{}
}

// read returns what decode makes of the next item of r, which has size bytes in all, or what is wrong with that item, and where.
func read[T any](r *wire.Reader, size int, decode func([]byte) (T, api.Fault)) (x T, fault api.Fault) {
	from := size - r.Rest()
	item := r.Bytes(api.MaxMsg)
	// A reader that has bytes left has no fault, but End tells these as one.
	if r.Rest() == 0 {
		if fault = r.End(); fault.Err != api.OK {
			return x, fault
		}
	}
	x, wrong := decode(item)
	if wrong.Err != api.OK {
		return x, api.Fault{Err: api.ErrForm, At: from}
	}
	return x, api.Fault{}
}
