package wire

import (
	"bytes"
	"math"

	"landfall/api"
	"landfall/pace"
)

// Reader is bytes that are read, one element after the other.
type Reader struct {
	self  *Reader // as NewReader returned it, so that a copy is told from it
	all   []byte
	place int
	fault api.Fault
}

// NewReader returns a reader of b, at its first byte.
func NewReader(b []byte) *Reader {
	r := &Reader{all: bytes.Clone(b)}
	r.self = r
	return r
}

// valid returns whether NewReader returned r.
func (r *Reader) valid() bool {
	return r != nil && r.self == r
}

// reads returns whether there may be elements to read: r is valid, and has no fault.
func (r *Reader) reads() bool {
	return r.valid() && r.fault.Err == api.OK
}

// halt is the panic that ends an element at an error.
type halt struct{ err api.Errno }

// halted makes what ended the element that begins at from the reader's fault.
func (r *Reader) halted(from int, why any) {
	r.fault = api.Fault{Err: why.(halt).err, At: from}
}

// read returns what element reads, or zero if the reader has a fault, or gets one by it.
func read[T any](r *Reader, element func() T) (x T) {
	if !r.reads() {
		return x
	}
	from := r.place
	// recover answers nothing in a func that the deferred one calls, so halted is handed what it answered.
	defer func() {
		if why := recover(); why != nil {
			r.halted(from, why)
		}
	}()
	return element()
}

// take returns what form makes of the next n bytes.
func take[T any](r *Reader, n int, form func([]byte) T) T {
	if n > len(r.all)-r.place {
		panic(halt{api.ErrShort})
	}
	from := r.place
	r.place += n
	return form(r.all[from:r.place])
}

// takeSized returns what form makes of as many bytes as the number ahead of them says, at most most.
func takeSized[T any](r *Reader, most int, form func([]byte) T) T {
	n := r.takeNumber()
	if n > max(most, 0) {
		panic(halt{api.ErrLong})
	}
	return take(r, n, form)
}

// takeNumber returns the next number.
func (r *Reader) takeNumber() int {
	k := take(r, 1, word)
	if k > wordSize {
		panic(halt{api.ErrForm})
	}
	return take(r, int(k), natural)
}

// word returns the number that b is in base 256.
func word(b []byte) uint64 {
	var n uint64
	for _, x := range b {
		n = n<<8 | uint64(x)
	}
	return n
}

// natural returns the number that b is in base 256, if it is one that is written so.
func natural(b []byte) int {
	n := word(b)
	if len(b) > 0 && b[0] == 0 || n > math.MaxInt {
		panic(halt{api.ErrForm})
	}
	return int(n)
}

// Num reads a number.
func (r *Reader) Num() int {
	return read(r, r.takeNumber)
}

// Text reads a text of at most most bytes.
func (r *Reader) Text(most int) string {
	return read(r, func() string {
		return takeSized(r, most, func(b []byte) string { return string(b) })
	})
}

// Bytes reads bytes, at most most, ahead of which stands their number.
func (r *Reader) Bytes(most int) []byte {
	return read(r, func() []byte { return takeSized(r, most, bytes.Clone) })
}

// Hash reads a hash.
func (r *Reader) Hash() api.Hash {
	return read(r, func() api.Hash { return take(r, len(api.Hash{}), hash) })
}

// hash returns the hash that b is.
func hash(b []byte) (h api.Hash) {
	copy(h[:], b)
	return h
}

// Key reads a key.
func (r *Reader) Key() api.Key {
	return read(r, func() api.Key { return take(r, len(api.Key{}), key) })
}

// key returns the key that b is.
func key(b []byte) (k api.Key) {
	copy(k[:], b)
	return k
}

// Word reads a word.
func (r *Reader) Word() uint64 {
	return read(r, func() uint64 { return take(r, wordSize, word) })
}

// Pace reads a pace.
func (r *Reader) Pace() float64 {
	return read(r, func() float64 { return take(r, wordSize, paceOf) })
}

// paceOf returns the pace whose form b is.
func paceOf(b []byte) float64 {
	x, err := pace.Of(word(b))
	if err != api.OK {
		panic(halt{api.ErrForm})
	}
	return x
}

// Bool reads a bool.
func (r *Reader) Bool() bool {
	return read(r, func() bool { return take(r, 1, truth) })
}

// truth returns the bool that b is.
func truth(b []byte) bool {
	if b[0] > 1 {
		panic(halt{api.ErrForm})
	}
	return b[0] == 1
}

// Rest returns how many bytes are left; none after a fault.
func (r *Reader) Rest() int {
	if !r.reads() {
		return 0
	}
	return len(r.all) - r.place
}

// End returns the reader's fault; without one it is a fault if bytes are left.
func (r *Reader) End() api.Fault {
	if !r.valid() {
		return api.Fault{Err: api.ErrNil}
	}
	if r.Rest() > 0 {
		return api.Fault{Err: api.ErrLong, At: r.place}
	}
	return r.fault
}
