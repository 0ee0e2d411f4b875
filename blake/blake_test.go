package blake_test

import (
	"bytes"
	"math/bits"
	"slices"
	"strings"
	"testing"

	"landfall/api"
	"landfall/blake"
)

const block = 64

// sample returns n bytes without a short period.
func sample(n int) []byte {
	b := make([]byte, n)
	for i := range b {
		b[i] = byte(i*167 + i>>8*41 + 13)
	}
	return b
}

// lengths returns those around a block and several blocks, and some others.
func lengths() []int {
	return []int{0, 1, 2, 31, 32, 33, 55, 56, 62, 63, 64, 65, 66, 126, 127, 128, 129, 130, 191, 192, 193, 255, 256, 257, 640, 1000}
}

// checkSum reports whether the text of a hash is want.
func checkSum(t *testing.T, what string, h api.Hash, want string) {
	t.Helper()
	if got := blake.Text(h); got != want {
		t.Errorf("%s: %s, not %s", what, got, want)
	}
}

// checkState reports whether s has exactly the bytes of want.
func checkState(t *testing.T, s *blake.State, want []byte) {
	t.Helper()
	if h, err := s.Sum(); h != blake.Sum(want) || err != api.OK {
		t.Errorf("Sum after %d bytes: %x, %v", len(want), h, err)
	}
	if n := s.Len(); n != len(want) {
		t.Errorf("Len after %d bytes: %d", len(want), n)
	}
}

func write(t *testing.T, s *blake.State, b []byte) {
	t.Helper()
	if err := s.Write(b); err != api.OK {
		t.Fatalf("Write of %d bytes: %v", len(b), err)
	}
}

// P3.1

// The hashes that these tests name come from another implementation of BLAKE2s.

func TestSum(t *testing.T) {
	for _, r := range [][2]string{
		{"", "69217a3079908094e11121d042354a7c1f55b6482ca1a51e1b250dfd1ed0eef9"},
		{"abc", "508c5e8c327c14e2e1a72ba34eeb452f37458b209ed63a294d999b4c86675982"},
		{"The quick brown fox jumps over the lazy dog", "606beeec743ccbeff6cbcdf5d5302aa855c256c29b88c8ed331ea1a6bf3c8812"},
	} {
		checkSum(t, r[0], blake.Sum([]byte(r[0])), r[1])
	}
	checkSum(t, "nil", blake.Sum(nil), "69217a3079908094e11121d042354a7c1f55b6482ca1a51e1b250dfd1ed0eef9")
}

func TestSumAtTheEdgesOfBlocks(t *testing.T) {
	for _, r := range []struct {
		n    int
		want string
	}{
		{1, "4871d87f0fdef63885b468c640f1263d6443d09d731093a2db4d039f380de584"},
		{2, "aaa0f9673801db4b3347539bbc4be8064318db8ed31ccfdaa87e80be3060ec31"},
		{31, "ee7b749864b63bfaa15991eee2f8bfba56f250c5280f1d08b9c12ee65a80b471"},
		{32, "37501b56b602d0d1ce088db2db0cb214b5314aafe8db7d91de420c2413af052b"},
		{62, "c88cfb98ceb55114ea65aa16625c24ad6301d2fadee304d75c9d298396a8ddb5"},
		{63, "c4ee3154d7fd851d1444ada1b8340305f4622c6771a321f263ecd51fca883e20"},
		{64, "72e147956ca539d86b17b42f99d7dbc89d28fb90dcc36c4708fb2c59ce08b471"},
		{65, "aa2bc35598e07288e7ac81019f8f716652141a65dcdf7acbb723949a5411572b"},
		{66, "3ba0e1f201cd8055dc1a1c18acc321910a2a39606db0ce1458a9f3d20b0f1d9c"},
		{127, "a65770a09e3f078b966f371b313a0fece83da14f8ecbb47ebaea353fb35e4eb6"},
		{128, "8fd119ff653e38b0f89eee1851f8a3f6ded6d42963234040a7bb1b96ef0eba49"},
		{129, "95656d438c338d1b5d5765391ff9b5b472033cc5ba434b1ec79cff8eadec115b"},
		{191, "5c395e192e6f8437dbd8fdd4eb5d0495e7515983377bc92b6a946beb6d472058"},
		{192, "5dcc5286431439eeb8cd2f362c89c3d07cecdb4d380403eac0def6fae4146b72"},
		{193, "60bfce8bc9eee71f4a21bfbff00af3517680cfa036c25078c3cc49dd76826424"},
		{255, "5ad43e3898c00d28f3ff1478862379f84f81386df89957f2bafb2c168e0d53d9"},
		{256, "f6855186898cc0a9ccd632274bec393271445ea264e8380a581ab2b95e423467"},
		{257, "99644238d78950432b049e81a0b8f55ad8f0635b1d1624f0edbef718ec049a16"},
		{1000, "65de8c8aee8641897351af874fd9281983a3620889b0aae79033a698d364786b"},
		{1<<16 - 1, "462abedfd3bfc6aafb53f89e5cb8192a38c46b92781a89eae2404c4a812d560e"},
		{1 << 16, "a359635214cd221b8a2c2aff1f963c6d9d98db998deccca4f7a6b83e2dbdd1a6"},
		{1<<16 + 1, "6423dfa785bcdf99b2dd2350b7b17f0932f7c2d1cb5771fcc0d91e00f08ec5e7"},
		{1 << 20, "4cceaab1514c3a2990486fa12ce9a69b023b5645c5d05a6a436c91f482840e1c"},
	} {
		checkSum(t, "of a sample", blake.Sum(sample(r.n)), r.want)
	}
}

// hashOfHashes returns the hash of the hashes of all pieces, one after the other.
func hashOfHashes(pieces [][]byte) api.Hash {
	var all []byte
	for _, b := range pieces {
		h := blake.Sum(b)
		all = append(all, h[:]...)
	}
	return blake.Sum(all)
}

func TestSumOfEveryLength(t *testing.T) {
	var samples, noughts, ones [][]byte
	for n := range 1025 {
		samples = append(samples, sample(n))
	}
	for n := range 200 {
		noughts = append(noughts, make([]byte, n))
		ones = append(ones, bytes.Repeat([]byte{255}, n))
	}
	checkSum(t, "of samples", hashOfHashes(samples), "a91d9aa80942bd5c5fe0b53324f7f7137976f2aac3f066f1f1e95017580a9d21")
	checkSum(t, "of bytes 0", hashOfHashes(noughts), "b8d2f7449f1bf7bf08b26fe525460ac8e40d917d75a83e6d7f818e1a34bf5819")
	checkSum(t, "of bytes 255", hashOfHashes(ones), "e563e3228b903008568a2bea0f700f47c0a71a40d88f0b5ccf49b3e2d2292dc9")
}

// TestSumOfEveryBit has a block for each bit of a block, that bit alone set.
func TestSumOfEveryBit(t *testing.T) {
	var pieces [][]byte
	for bit := range 8 * block {
		b := make([]byte, block)
		b[bit/8] = 1 << (bit % 8)
		pieces = append(pieces, b)
	}
	checkSum(t, "of single bits", hashOfHashes(pieces), "74d95050d6f6ef8199883402ccf9693076a2c5cd46e1e444aacafccd4f716733")
}

func TestNewHasNoBytes(t *testing.T) {
	s := blake.New()
	if s == nil {
		t.Fatal("New: nil")
	}
	checkState(t, s, nil)
	if other := blake.New(); other == s {
		t.Error("New: the same state again")
	}
}

func TestWriteAppends(t *testing.T) {
	s := blake.New()
	write(t, s, []byte("a"))
	checkState(t, s, []byte("a"))
	write(t, s, []byte("bc"))
	checkState(t, s, []byte("abc"))
	h, _ := s.Sum()
	checkSum(t, "abc", h, "508c5e8c327c14e2e1a72ba34eeb452f37458b209ed63a294d999b4c86675982")
}

func TestWriteOfNoBytes(t *testing.T) {
	for _, n := range lengths() {
		s := blake.New()
		write(t, s, nil)
		write(t, s, sample(n))
		write(t, s, nil)
		write(t, s, []byte{})
		checkState(t, s, sample(n))
	}
}

func TestWriteAfterSum(t *testing.T) {
	all := sample(5*block + 1)
	s := blake.New()
	for at := range all {
		checkState(t, s, all[:at])
		checkState(t, s, all[:at]) // a sum changes nothing
		write(t, s, all[at:at+1])
	}
	checkState(t, s, all)
}

func TestStatesAreIndependent(t *testing.T) {
	a, b := blake.New(), blake.New()
	var inA, inB []byte
	for at, x := range sample(3 * block) {
		write(t, a, []byte{x})
		write(t, b, []byte{^x, byte(at)})
		inA, inB = append(inA, x), append(inB, ^x, byte(at))
		checkState(t, a, inA)
		checkState(t, b, inB)
	}
}

// TestWhatIsWrittenIsNotKept changes bytes after they were written, in a state that has not yet processed them.
func TestWhatIsWrittenIsNotKept(t *testing.T) {
	for _, n := range lengths() {
		s, b := blake.New(), sample(n)
		write(t, s, b)
		clear(b)
		checkState(t, s, sample(n))
	}
}

// TestArgumentsStayAsTheyAre looks at the spare capacity as well.
func TestArgumentsStayAsTheyAre(t *testing.T) {
	for _, n := range lengths() {
		b := sample(n + 2*block)
		s := blake.New()
		write(t, s, b[:n])
		checkState(t, s, sample(n))
		if blake.Sum(b[:n]) != blake.Sum(sample(n)) {
			t.Errorf("Sum of %d bytes reads those after them", n)
		}
		if !bytes.Equal(b, sample(n+2*block)) {
			t.Errorf("%d bytes, or those after them, are changed", n)
		}
	}
}

func checkInvalid(t *testing.T, what string, s *blake.State) {
	t.Helper()
	for range 2 {
		for _, b := range [][]byte{nil, []byte("a"), sample(3 * block)} {
			if err := s.Write(b); err != api.ErrNil {
				t.Errorf("%s: Write of %d bytes: %v", what, len(b), err)
			}
		}
		if n := s.Len(); n != 0 {
			t.Errorf("%s: Len: %d", what, n)
		}
		if h, err := s.Sum(); h != (api.Hash{}) || err != api.ErrNil {
			t.Errorf("%s: Sum: %x, %v", what, h, err)
		}
	}
}

func TestInvalidStates(t *testing.T) {
	checkInvalid(t, "nil", nil)
	checkInvalid(t, "zero", &blake.State{})
	checkInvalid(t, "new", new(blake.State))
	checkInvalid(t, "of a list", &make([]blake.State, 2)[1])
}

// TestCopiesAreInvalid has copies of a state: New returned none of them, and nothing done to them reaches that state.
func TestCopiesAreInvalid(t *testing.T) {
	s := blake.New()
	write(t, s, []byte("abc"))
	c := *s
	checkInvalid(t, "copy", &c)
	checkState(t, s, []byte("abc"))
	other := blake.New()
	*other = *s
	checkInvalid(t, "overwritten", other)
	write(t, s, []byte("d"))
	checkState(t, s, []byte("abcd"))
}

// P3.3

func TestTwoPieces(t *testing.T) {
	for _, n := range lengths() {
		all := sample(n)
		for at := range n + 1 {
			s := blake.New()
			write(t, s, all[:at])
			write(t, s, all[at:])
			checkState(t, s, all)
		}
	}
}

func TestPiecesOfOneLength(t *testing.T) {
	all := sample(7*block + 5)
	for n := 1; n <= len(all); n++ {
		s := blake.New()
		for piece := range slices.Chunk(all, n) {
			write(t, s, piece)
		}
		checkState(t, s, all)
	}
}

// TestPiecesOfEveryKind has pieces of mixed lengths, empty ones among them, and sums between some of them.
func TestPiecesOfEveryKind(t *testing.T) {
	kinds := []int{0, 1, block - 1, block, block + 1, 0, 2, 3 * block, 5 * block / 2, 7, 2*block - 1, 31, 0, 2*block + 1}
	all := sample(40 * block)
	for seed := range 300 {
		s, from := blake.New(), 0
		for turn := seed; from < len(all)-4*block; turn++ {
			piece := kinds[(turn*turn+seed/7)%len(kinds)] + turn%2
			write(t, s, all[from:from+piece])
			from += piece
			if bits.OnesCount(uint(turn+seed))%2 == 0 {
				checkState(t, s, all[:from])
			}
		}
		checkState(t, s, all[:from])
	}
}

// TestSumsDiffer has bytes that a wrong padding, or a wrong count, would make the same.
func TestSumsDiffer(t *testing.T) {
	seen := map[api.Hash]string{}
	see := func(s string) {
		h := blake.Sum([]byte(s))
		if other, is := seen[h]; is {
			t.Errorf("%q and %q: the same hash", s, other)
		}
		seen[h] = s
	}
	for n := range 4*block + 2 {
		see(strings.Repeat("\x00", n))
		if n > 1 {
			noughts := strings.Repeat("\x00", n-1)
			see("a" + noughts)
			see(noughts + "a")
		}
	}
}
