package sigs

import (
	"landfall/api"
	"landfall/wire"
)

// Encode returns the bytes of the table.
func (t *Table) Encode() ([]byte, api.Errno) {
	if !t.valid() {
		return nil, api.ErrNil
	}
	w, err := wire.NewWriter(api.MaxWire)
	if err != api.OK {
		return nil, err
	}
	w.Num(t.Len())
	for _, s := range t.ascending() {
		w.Key(s.Key)
		w.Hash(s.Hash)
		w.Word(s.Sig)
	}
	return w.Done()
}

// Decode returns the table whose bytes b are, or what is wrong with them, and where.
func Decode(b []byte) (*Table, api.Fault) {
	r := wire.NewReader(b)
	// After a fault the number is 0, and End returns that fault.
	n := r.Num()
	if n > api.MaxSigs {
		return nil, api.Fault{Err: api.ErrLong}
	}
	t, err := New(api.MaxSigs)
	if err != api.OK {
		return nil, api.Fault{Err: err}
	}
	var previous signature
	for turn := range n {
		from := len(b) - r.Rest()
		s, fault := read(r)
		if fault.Err != api.OK {
			return nil, fault
		}
		if turn > 0 && s.compare(previous) <= 0 {
			return nil, api.Fault{Err: api.ErrOrder, At: from}
		}
		t.all[s] = struct{}{}
		previous = s
	}
	if fault := r.End(); fault.Err != api.OK {
		return nil, fault
	}
	return t, api.Fault{}
}

// read returns the next signature, or the reader's fault.
func read(r *wire.Reader) (signature, api.Fault) {
	s := signature{Key: r.Key(), Hash: r.Hash(), Sig: r.Word()}
	// A reader that has bytes left has no fault, but End tells these as one.
	if r.Rest() > 0 {
		return s, api.Fault{}
	}
	return s, r.End()
}
