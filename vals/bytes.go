package vals

import (
	"landfall/api"
	"landfall/blake"
	"landfall/wire"
)

// Encode returns the bytes of a set.
func Encode(l []api.Validator) ([]byte, api.Errno) {
	if err := Check(l); err != api.OK {
		return nil, err
	}
	w, err := wire.NewWriter(api.MaxWire)
	if err != api.OK {
		return nil, err
	}
	w.Num(len(l))
	for _, v := range l {
		w.Key(v.Key)
		w.Num(v.Power)
	}
	return w.Done()
}

// Decode returns the set whose bytes b are, or what is wrong with them, and where.
func Decode(b []byte) ([]api.Validator, api.Fault) {
	r := wire.NewReader(b)
	n := r.Num()
	if n > api.MaxVals {
		return nil, api.Fault{Err: api.ErrLong}
	}
	// After its first fault the reader reads zeros, and End returns that fault.
	l := make([]api.Validator, n)
	for at := range l {
		l[at] = api.Validator{Key: r.Key(), Power: r.Num()}
	}
	if fault := r.End(); fault.Err != api.OK {
		return nil, fault
	}
	if err := Check(l); err != api.OK {
		return nil, api.Fault{Err: err}
	}
	return l, api.Fault{}
}

// Hash returns the hash of a set.
func Hash(l []api.Validator) (api.Hash, api.Errno) {
	b, err := Encode(l)
	if err != api.OK {
		return api.Hash{}, err
	}
	return blake.Sum(b), api.OK
}
