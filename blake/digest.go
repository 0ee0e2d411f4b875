package blake

import (
	"math/bits"

	"landfall/api"
)

const (
	blockSize = 64
	wordSize  = 4
	lastBlock = 0xffffffff
)

// rows is the table: which words of a block each round mixes, a digit of base 16 for each of them.
const rows = "0123456789abcdef" +
	"ea489fd61c02b753" +
	"b8c052fdae367194" +
	"7931dcbe265a40f8" +
	"905724afe1bc683d" +
	"2c6a0b834d75fe19" +
	"c51fed4a0763928b" +
	"db7ec13950f4862a" +
	"6fe9b308c2d714a5" +
	"a2847615fb9e3cd0"

// initial is I.
var initial = [8]uint32{0x6a09e667, 0xbb67ae85, 0x3c6ef372, 0xa54ff53a, 0x510e527f, 0x9b05688c, 0x1f83d9ab, 0x5be0cd19}

// parameters is what the first word differs by: 32 bytes of hash, no key.
const parameters = 0x01010020

// counter is how many bytes there are so far.
type counter struct{ bytes uint64 }

// count adds n bytes.
func (c *counter) count(n int) {
	c.bytes += uint64(n)
}

// digest is what is kept of bytes: h of all blocks but the latest, and of that one the bytes there are.
type digest struct {
	counter
	h     [8]uint32
	block [blockSize]byte
	held  int
}

// start returns the digest of no bytes.
func start() digest {
	d := digest{h: initial}
	d.h[0] ^= parameters
	return d
}

// write appends b.
func (d *digest) write(b []byte) {
	for len(b) > 0 {
		// A full block waits until there is a byte after it: the last one is processed otherwise.
		if d.held == blockSize {
			d.process(0)
			d.held = 0
		}
		n := copy(d.block[d.held:], b)
		d.held += n
		d.count(n)
		b = b[n:]
	}
}

// sum returns the hash. It ends a copy, so that d may go on.
func (d digest) sum() api.Hash {
	clear(d.block[d.held:])
	d.process(lastBlock)
	var hash api.Hash
	for at := range hash {
		hash[at] = byte(d.h[at/wordSize] >> (8 * (at % wordSize)))
	}
	return hash
}

// process takes the block into h; last is lastBlock for the last one, 0 for others.
func (d *digest) process(last uint32) {
	var v [16]uint32
	for i, word := range initial {
		v[i], v[i+8] = d.h[i], word
	}
	v[12] ^= uint32(d.bytes)
	v[13] ^= uint32(d.bytes >> 32)
	v[14] ^= last
	rounds(&v, words(&d.block))
	for i := range d.h {
		d.h[i] ^= v[i] ^ v[i+8]
	}
}

// words returns the words m of a block.
func words(block *[blockSize]byte) [16]uint32 {
	var m [16]uint32
	for at, x := range block {
		m[at/wordSize] |= uint32(x) << (8 * (at % wordSize))
	}
	return m
}

// rounds mixes v with the words m, in the order of each row.
func rounds(v *[16]uint32, m [16]uint32) {
	var row [16]uint32
	for at, digit := range rows {
		place := at % len(row)
		row[place] = m[value(digit)]
		if place == len(row)-1 {
			round(v, &row)
		}
	}
}

// round mixes v, as four columns and then four diagonals, with the words of a row.
func round(v, s *[16]uint32) {
	mix(&v[0], &v[4], &v[8], &v[12], s[0], s[1])
	mix(&v[1], &v[5], &v[9], &v[13], s[2], s[3])
	mix(&v[2], &v[6], &v[10], &v[14], s[4], s[5])
	mix(&v[3], &v[7], &v[11], &v[15], s[6], s[7])
	mix(&v[0], &v[5], &v[10], &v[15], s[8], s[9])
	mix(&v[1], &v[6], &v[11], &v[12], s[10], s[11])
	mix(&v[2], &v[7], &v[8], &v[13], s[12], s[13])
	mix(&v[3], &v[4], &v[9], &v[14], s[14], s[15])
}

// mix mixes the words a, b, c and d with x and y.
func mix(a, b, c, d *uint32, x, y uint32) {
	*a += *b + x
	*d = bits.RotateLeft32(*d^*a, -16)
	*c += *d
	*b = bits.RotateLeft32(*b^*c, -12)
	*a += *b + y
	*d = bits.RotateLeft32(*d^*a, -8)
	*c += *d
	*b = bits.RotateLeft32(*b^*c, -7)
}
