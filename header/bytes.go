package header

import (
	"landfall/api"
	"landfall/blake"
	"landfall/wire"
)

// head stands ahead of an encoding that is hashed: the bytes of a set, which are hashed too, never begin with it.
const head = 72

// hashes returns where h has its hashes, in the order in which they are encoded.
func hashes(h *api.Header) [4]*api.Hash {
	return [...]*api.Hash{&h.Prev, &h.Vals, &h.Next, &h.App}
}

// Encode returns the bytes of a header.
func Encode(h api.Header) ([]byte, api.Errno) {
	if err := Check(h); err != api.OK {
		return nil, err
	}
	w, err := wire.NewWriter(api.MaxWire)
	if err != api.OK {
		return nil, err
	}
	w.Text(h.Chain)
	w.Num(h.Height)
	w.Num(h.Time)
	for _, hash := range hashes(&h) {
		w.Hash(*hash)
	}
	return w.Done()
}

// Decode returns the header whose bytes b are, or what is wrong with them, and where.
func Decode(b []byte) (api.Header, api.Fault) {
	r := wire.NewReader(b)
	// After its first fault the reader reads zeros, and End returns that fault.
	h := api.Header{Chain: r.Text(api.MaxName), Height: r.Num(), Time: r.Num()}
	for _, hash := range hashes(&h) {
		*hash = r.Hash()
	}
	if fault := r.End(); fault.Err != api.OK {
		return api.Header{}, fault
	}
	if err := Check(h); err != api.OK {
		return api.Header{}, api.Fault{Err: err}
	}
	return h, api.Fault{}
}

// Hash returns the hash of a header.
func Hash(h api.Header) (api.Hash, api.Errno) {
	b, err := Encode(h)
	if err != api.OK {
		return api.Hash{}, err
	}
	return blake.Sum(append([]byte{head}, b...)), api.OK
}
