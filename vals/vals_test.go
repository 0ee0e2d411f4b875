package vals_test

import (
	"math"
	"math/big"
	"slices"
	"testing"

	"landfall/api"
	"landfall/vals"
)

const (
	maxInt = math.MaxInt
	minInt = math.MinInt
)

// key returns the key that n is in base 256.
func key(n uint32) api.Key {
	return api.Key{byte(n >> 24), byte(n >> 16), byte(n >> 8), byte(n)}
}

// of returns validators: keys and powers in turns.
func of(l ...int) []api.Validator {
	var out []api.Validator
	for at := 0; at < len(l); at += 2 {
		out = append(out, api.Validator{Key: key(uint32(l[at])), Power: l[at+1]})
	}
	return out
}

// row returns n validators with the keys from first on, each with that power.
func row(first, n, power int) []api.Validator {
	var out []api.Validator
	for at := range n {
		out = append(out, api.Validator{Key: key(uint32(first + at)), Power: power})
	}
	return out
}

// join returns all of the lists as one.
func join(lists ...[]api.Validator) []api.Validator {
	return slices.Concat(lists...)
}

// with returns l, where the one at the place at has that power.
func with(l []api.Validator, at, power int) []api.Validator {
	l = slices.Clone(l)
	l[at].Power = power
	return l
}

// mix returns the next number of a fixed sequence without a visible pattern.
func mix(x uint64) uint64 {
	x += 0x9e3779b97f4a7c15
	x = (x ^ x>>30) * 0xbf58476d1ce4e5b9
	x = (x ^ x>>27) * 0x94d049bb133111eb
	return x ^ x>>31
}

// sample returns a valid set of n validators without a visible pattern.
func sample(n int, seed uint64) []api.Validator {
	has := map[api.Key]bool{}
	var l []api.Validator
	for turn := uint64(0); len(l) < n; turn++ {
		x := mix(seed<<20 + turn)
		k := key(uint32(x))
		if has[k] {
			continue
		}
		has[k] = true
		l = append(l, api.Validator{Key: k, Power: 1 + int(mix(x)>>(2+x%61))})
	}
	slices.SortFunc(l, func(a, b api.Validator) int { return slices.Compare(a.Key[:], b.Key[:]) })
	return l
}

// most is a set that has the greatest number of validators and the greatest powers.
var most = row(0x7fffffe0, api.MaxVals, api.MaxPower)

// sets returns valid sets: of every number of validators, with the powers and keys that are edges.
func sets() [][]api.Validator {
	l := [][]api.Validator{
		most, of(0, 1), of(0, 1, 0xffffffff, 1), of(0xffffffff, api.MaxPower), of(1, 5, 2, 7), of(10, 5),
		of(0, 1, 1, api.MaxPower, 2, 1), of(1, api.MaxPower-1, 2, api.MaxPower, 3, 255, 4, 256, 5, 1<<56, 6, 1<<56-1),
		of(0x00ffffff, 1, 0x01000000, 1), of(0x01000000, 1, 0x02000000, 1, 0x7f000000, 1, 0x80000000, 1, 0xff000000, 1), of(0x7f, 1, 0x80, 1, 0xff, 1, 0x100, 1, 0x7fff, 1, 0x8000, 1),
	}
	for n := 1; n <= api.MaxVals; n++ {
		l = append(l, row(0, n, 1), row(500, n, api.MaxPower), sample(n, uint64(n)))
	}
	return l
}

// wrong is validators that are not a valid set, and why.
type wrong struct {
	l   []api.Validator
	err api.Errno
}

// wrongs returns lists that are not valid for each reason, at each place, and for several at once.
func wrongs() []wrong {
	l := []wrong{
		{nil, api.ErrShort}, {[]api.Validator{}, api.ErrShort},
		{row(0, 65, 1), api.ErrLong}, {row(0, 66, 1), api.ErrLong}, {row(0, 5000, 1), api.ErrLong},
		{of(1, 0), api.ErrRange}, {of(1, -1), api.ErrRange}, {of(1, minInt), api.ErrRange}, {of(1, api.MaxPower+1), api.ErrRange}, {of(1, maxInt), api.ErrRange}, {of(0, 0), api.ErrRange},
		{of(1, 1, 1, 1), api.ErrOrder}, {of(2, 1, 1, 1), api.ErrOrder}, {of(0, 1, 0, 1), api.ErrOrder}, {of(0xffffffff, 1, 0, 1), api.ErrOrder},
		{of(0x02000000, 1, 0x01000000, 1), api.ErrOrder}, {of(0x01000000, 1, 0x00ffffff, 1), api.ErrOrder}, {of(0x80000000, 1, 0x7f000000, 1), api.ErrOrder}, {of(0x80, 1, 0x7f, 1), api.ErrOrder}, {of(0x0100, 1, 0xff, 1), api.ErrOrder},
		{of(1, 1, 3, 1, 2, 1), api.ErrOrder}, {of(2, 1, 3, 1, 1, 1), api.ErrOrder}, {of(1, 1, 2, 1, 1, 1), api.ErrOrder},
		// too many, and no key nor power is right
		{make([]api.Validator, 65), api.ErrLong}, {with(row(0, 65, 1), 0, 0), api.ErrLong}, {join(of(7, 1), row(0, 64, -1)), api.ErrLong},
		// both at one place, and at two
		{of(2, 1, 1, 0), api.ErrOrder}, {of(1, 1, 1, -1), api.ErrOrder}, {of(2, 0, 1, 1), api.ErrRange}, {of(2, 1, 1, 1, 3, 0), api.ErrOrder}, {of(1, 1, 2, 0, 2, 1), api.ErrRange}, {of(1, 1, 2, maxInt, 1, 1), api.ErrRange},
		{make([]api.Validator, 64), api.ErrRange},
	}
	for _, n := range []int{2, 3, 63, 64} {
		for at := range n {
			for _, power := range []int{0, -1, minInt, api.MaxPower + 1, maxInt} {
				l = append(l, wrong{with(row(5, n, 3), at, power), api.ErrRange})
			}
			if at == 0 {
				continue
			}
			equal, less := row(5, n, 3), row(5, n, 3)
			equal[at].Key, less[at].Key = equal[at-1].Key, key(2)
			l = append(l, wrong{equal, api.ErrOrder}, wrong{less, api.ErrOrder})
		}
	}
	return l
}

// P5.1

func TestCheck(t *testing.T) {
	for at, l := range sets() {
		if err := vals.Check(l); err != api.OK {
			t.Errorf("set %d: %v: %v", at, l, err)
		}
	}
	for at, r := range wrongs() {
		if err := vals.Check(r.l); err != r.err {
			t.Errorf("wrong %d: %v: %v, not %v", at, r.l, err, r.err)
		}
	}
}

// TestCheckOfOneByte has keys that differ in one byte alone, in both orders.
func TestCheckOfOneByte(t *testing.T) {
	edges := []byte{0, 1, 0x7f, 0x80, 0xfe, 0xff}
	for at := range len(api.Key{}) {
		for _, a := range edges {
			for _, b := range edges {
				one, other := api.Key{9, 9, 9, 9}, api.Key{9, 9, 9, 9}
				one[at], other[at] = a, b
				want := api.ErrOrder
				if a < b {
					want = api.OK
				}
				if err := vals.Check([]api.Validator{{Key: one, Power: 1}, {Key: other, Power: 1}}); err != want {
					t.Errorf("%x, %x: %v", one, other, err)
				}
			}
		}
	}
}

// TestCheckComparesFromTheFirstByteOn has keys whose first byte that differs says otherwise than the ones after it.
func TestCheckComparesFromTheFirstByteOn(t *testing.T) {
	for at := range len(api.Key{}) {
		var less, more api.Key
		for after := at; after < len(less); after++ {
			less[after] = 0xff
		}
		less[at], more[at] = 0x10, 0x11
		if err := vals.Check([]api.Validator{{Key: less, Power: 1}, {Key: more, Power: 1}}); err != api.OK {
			t.Errorf("%x, %x: %v", less, more, err)
		}
		if err := vals.Check([]api.Validator{{Key: more, Power: 1}, {Key: less, Power: 1}}); err != api.ErrOrder {
			t.Errorf("%x, %x: %v", more, less, err)
		}
	}
}

func TestTotal(t *testing.T) {
	for at, l := range sets() {
		sum := new(big.Int)
		for _, v := range l {
			sum.Add(sum, big.NewInt(int64(v.Power)))
		}
		lo := new(big.Int).And(sum, new(big.Int).SetUint64(math.MaxUint64))
		want := api.Wide{Hi: new(big.Int).Rsh(sum, 64).Uint64(), Lo: lo.Uint64()}
		if got, err := vals.Total(l); got != want || err != api.OK {
			t.Errorf("set %d: %v, %v, not %v", at, got, err, want)
		}
	}
	for _, r := range []struct {
		l    []api.Validator
		want api.Wide
	}{
		{of(1, 5, 2, 7), api.Wide{Lo: 12}}, {of(1, 1), api.Wide{Lo: 1}}, {of(1, api.MaxPower), api.Wide{Lo: 1 << 62}},
		{row(0, 4, api.MaxPower), api.Wide{Hi: 1}}, {most, api.Wide{Hi: 16}},
	} {
		if got, err := vals.Total(r.l); got != r.want || err != api.OK {
			t.Errorf("%v: %v, %v", r.l, got, err)
		}
	}
}

func TestTotalOfWrongSets(t *testing.T) {
	for at, r := range wrongs() {
		if got, err := vals.Total(r.l); got != (api.Wide{}) || err != r.err {
			t.Errorf("wrong %d: %v: %v, %v, not %v", at, r.l, got, err, r.err)
		}
	}
}

// checkFind looks for k in l, and compares what is found to what a walk through l finds.
func checkFind(t *testing.T, l []api.Validator, k api.Key) {
	t.Helper()
	want, has := 0, false
	for at, v := range l {
		if v.Key == k {
			want, has = at, true
			break
		}
	}
	if at, is := vals.Find(l, k); at != want || is != has {
		t.Errorf("Find(%v, %x): %d, %v, not %d, %v", l, k, at, is, want, has)
	}
}

func TestFind(t *testing.T) {
	for _, l := range sets() {
		for at, v := range l {
			if got, is := vals.Find(l, v.Key); got != at || !is {
				t.Errorf("Find(%v, %x): %d, %v", l, v.Key, got, is)
			}
			for place := range v.Key {
				near := v.Key
				near[place]++
				checkFind(t, l, near)
			}
		}
		for _, n := range []uint32{0, 1, 2, 3, 0x01000000, 0x7fffffff, 0x80000000, 0xffffffff} {
			checkFind(t, l, key(n))
		}
	}
}

// TestFindInWrongSets has lists without an order, with a key more than once, without validators, with too many of them, and with wrong powers.
func TestFindInWrongSets(t *testing.T) {
	for _, r := range []struct {
		l    []api.Validator
		k    uint32
		want int
		has  bool
	}{
		{nil, 0, 0, false}, {[]api.Validator{}, 7, 0, false}, {of(2, 5, 1, 7), 1, 1, true}, {of(2, 5, 1, 7), 2, 0, true}, {of(2, 5, 1, 7), 3, 0, false},
		{of(1, 1, 2, 1, 2, 1, 2, 1, 3, 1), 2, 1, true}, {of(2, 1, 2, 2, 2, 3), 2, 0, true}, {of(5, 1, 1, 1, 5, 1, 1, 1), 1, 1, true}, {of(9, 1, 8, 1, 7, 1, 6, 1, 5, 1), 5, 4, true},
		{of(1, 0, 2, -1, 3, maxInt), 3, 2, true}, {of(1, 0, 2, -1, 3, maxInt), 2, 1, true}, {row(0, 500, 1), 499, 499, true}, {row(0, 500, 1), 500, 0, false}, {make([]api.Validator, 100), 0, 0, true}, {make([]api.Validator, 100), 1, 0, false},
	} {
		if at, is := vals.Find(r.l, key(r.k)); at != r.want || is != r.has {
			t.Errorf("Find(%v, %d): %d, %v", r.l, r.k, at, is)
		}
	}
	for _, r := range wrongs() {
		for n := range uint32(70) {
			checkFind(t, r.l, key(n))
		}
	}
	for seed := range uint64(2000) {
		var l []api.Validator
		for turn := range seed % 20 {
			l = append(l, api.Validator{Key: key(uint32(mix(seed<<8+turn) % 10))})
		}
		for n := range uint32(11) {
			checkFind(t, l, key(n))
		}
	}
}

// TestFindEndsWithItsList has the key in the spare capacity alone.
func TestFindEndsWithItsList(t *testing.T) {
	l := of(1, 5, 2, 7, 3, 9)
	if at, is := vals.Find(l[:2], key(3)); at != 0 || is {
		t.Errorf("%d, %v", at, is)
	}
}

// TestArgumentsStayAsTheyAre calls everything with a set behind which something stands in the spare capacity.
func TestArgumentsStayAsTheyAre(t *testing.T) {
	for _, set := range append(sets(), of(3, 1, 2, 1), of(3, 0), nil) {
		l := join(set, of(8, 8, 7, 7))
		n := len(set)
		changes := join(of(1, 4, 2, 6), of(9, 9))
		vals.Check(l[:n])
		vals.Total(l[:n])
		vals.Find(l[:n], key(2))
		vals.Encode(l[:n])
		vals.Hash(l[:n])
		vals.Change(l[:n], changes[:2])
		vals.Change(l[:n], l[:n])
		if !slices.Equal(l, join(set, of(8, 8, 7, 7))) || !slices.Equal(changes, of(1, 4, 2, 6, 9, 9)) {
			t.Errorf("%v: changed: %v, %v", set, l, changes)
		}
	}
}
