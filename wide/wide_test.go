package wide_test

import (
	"math"
	"math/big"
	"slices"
	"testing"

	"landfall/api"
	"landfall/wide"
)

const top = math.MaxUint64

var full = api.Wide{Hi: top, Lo: top}

// bigOf returns a as a big number, whose arithmetic the tests rely on.
func bigOf(a api.Wide) *big.Int {
	hi := new(big.Int).Lsh(new(big.Int).SetUint64(a.Hi), 64)
	return hi.Add(hi, new(big.Int).SetUint64(a.Lo))
}

func wideOf(b *big.Int) api.Wide {
	lo := new(big.Int).And(b, new(big.Int).SetUint64(top))
	return api.Wide{Hi: new(big.Int).Rsh(b, 64).Uint64(), Lo: lo.Uint64()}
}

// expect returns b as a result of a sum or product: ErrFull if it needs more than 128 bits.
func expect(b *big.Int) (api.Wide, api.Errno) {
	if b.BitLen() > 128 {
		return api.Wide{}, api.ErrFull
	}
	return wideOf(b), api.OK
}

// mix returns the next number of a fixed sequence without a visible pattern.
func mix(x uint64) uint64 {
	x += 0x9e3779b97f4a7c15
	x = (x ^ x>>30) * 0xbf58476d1ce4e5b9
	x = (x ^ x>>27) * 0x94d049bb133111eb
	return x ^ x>>31
}

// wides returns wides at the edges of both words, and some between them.
func wides() []api.Wide {
	words := []uint64{0, 1, 2, 3, 10, math.MaxUint32, 1 << 32, math.MaxInt64 - 1, math.MaxInt64, 1 << 63, 1<<63 + 1, top - 1, top}
	var l []api.Wide
	for _, hi := range words {
		for _, lo := range words {
			l = append(l, api.Wide{Hi: hi, Lo: lo})
		}
	}
	x := uint64(1)
	for shift := 0; shift < 128; shift += 3 {
		x = mix(x)
		a := new(big.Int).Rsh(bigOf(api.Wide{Hi: x, Lo: mix(x)}), uint(shift))
		l = append(l, wideOf(a))
	}
	return l
}

// factors returns ints at the edges, and some between them.
func factors() []int {
	l := []int{0, 1, 2, 3, 10, 1 << 31, 1 << 32, 1 << 62, math.MaxInt - 1, math.MaxInt}
	x := uint64(2)
	for shift := 1; shift < 64; shift += 9 {
		x = mix(x)
		l = append(l, int(x>>shift))
	}
	return l
}

var negatives = []int{-1, -2, -1 << 32, math.MinInt + 1, math.MinInt}

// P1.1

func TestOf(t *testing.T) {
	for _, n := range factors() {
		if a, err := wide.Of(n); a != (api.Wide{Lo: uint64(n)}) || err != api.OK {
			t.Errorf("Of(%d): %v, %v", n, a, err)
		}
	}
	for _, n := range negatives {
		if a, err := wide.Of(n); a != (api.Wide{}) || err != api.ErrRange {
			t.Errorf("Of(%d): %v, %v", n, a, err)
		}
	}
}

func TestPlus(t *testing.T) {
	for _, a := range wides() {
		for _, b := range wides() {
			want, wantErr := expect(new(big.Int).Add(bigOf(a), bigOf(b)))
			if got, err := wide.Plus(a, b); got != want || err != wantErr {
				t.Fatalf("Plus(%v, %v): %v, %v, not %v, %v", a, b, got, err, want, wantErr)
			}
		}
	}
}

// TestPlusEdge adds what is lacking to 2^128 - 1, and one more.
func TestPlusEdge(t *testing.T) {
	for _, a := range wides() {
		rest := api.Wide{Hi: ^a.Hi, Lo: ^a.Lo}
		if got, err := wide.Plus(a, rest); got != full || err != api.OK {
			t.Errorf("Plus(%v, %v): %v, %v", a, rest, got, err)
		}
		if rest == full {
			continue
		}
		more := wideOf(new(big.Int).Add(bigOf(rest), big.NewInt(1)))
		if got, err := wide.Plus(a, more); got != (api.Wide{}) || err != api.ErrFull {
			t.Errorf("Plus(%v, %v): %v, %v", a, more, got, err)
		}
	}
}

func TestTimes(t *testing.T) {
	for _, a := range wides() {
		for _, n := range factors() {
			want, wantErr := expect(new(big.Int).Mul(bigOf(a), big.NewInt(int64(n))))
			if got, err := wide.Times(a, n); got != want || err != wantErr {
				t.Fatalf("Times(%v, %d): %v, %v, not %v, %v", a, n, got, err, want, wantErr)
			}
		}
		for _, n := range negatives {
			if got, err := wide.Times(a, n); got != (api.Wide{}) || err != api.ErrRange {
				t.Fatalf("Times(%v, %d): %v, %v", a, n, got, err)
			}
		}
	}
}

// TestTimesEdge multiplies the greatest number for which there is room, and the next one.
func TestTimesEdge(t *testing.T) {
	for _, n := range factors() {
		if n < 2 {
			continue
		}
		most := new(big.Int).Div(bigOf(full), big.NewInt(int64(n)))
		want := wideOf(new(big.Int).Mul(most, big.NewInt(int64(n))))
		if got, err := wide.Times(wideOf(most), n); got != want || err != api.OK {
			t.Errorf("Times(%v, %d): %v, %v", most, n, got, err)
		}
		next := wideOf(most.Add(most, big.NewInt(1)))
		if got, err := wide.Times(next, n); got != (api.Wide{}) || err != api.ErrFull {
			t.Errorf("Times(%v, %d): %v, %v", next, n, got, err)
		}
	}
}

func TestSum(t *testing.T) {
	for _, r := range []struct {
		l    []int
		want api.Wide
		err  api.Errno
	}{
		{nil, api.Wide{}, api.OK},
		{[]int{}, api.Wide{}, api.OK},
		{[]int{0}, api.Wide{}, api.OK},
		{[]int{7}, api.Wide{Lo: 7}, api.OK},
		{[]int{math.MaxInt}, api.Wide{Lo: math.MaxInt}, api.OK},
		{[]int{1, 2, 3, 4}, api.Wide{Lo: 10}, api.OK},
		{[]int{1 << 62, 1 << 62, 1 << 62, 1 << 62}, api.Wide{Hi: 1}, api.OK},
		{[]int{math.MaxInt, math.MaxInt, 1}, api.Wide{Lo: top}, api.OK},
		{[]int{math.MaxInt, math.MaxInt, 2, 5}, api.Wide{Hi: 1, Lo: 5}, api.OK},
		{[]int{-1}, api.Wide{}, api.ErrRange},
		{[]int{1, -1}, api.Wide{}, api.ErrRange},
		{[]int{-1, 1}, api.Wide{}, api.ErrRange},
		{[]int{5, -3, 9}, api.Wide{}, api.ErrRange},
		{[]int{1 << 62, 1 << 62, 1 << 62, 1 << 62, math.MinInt}, api.Wide{}, api.ErrRange},
	} {
		if got, err := wide.Sum(r.l); got != r.want || err != r.err {
			t.Errorf("Sum(%v): %v, %v", r.l, got, err)
		}
	}
}

func TestSumOfMany(t *testing.T) {
	l := make([]int, 5000)
	want := new(big.Int)
	x := uint64(3)
	for i := range l {
		x = mix(x)
		l[i] = int(x >> 1)
		want.Add(want, new(big.Int).SetUint64(x>>1))
	}
	if got, err := wide.Sum(l); got != wideOf(want) || err != api.OK {
		t.Errorf("%v, %v, not %v", got, err, want)
	}
}

// TestSumLeavesItsArgument looks at the spare capacity as well: 9 stands in it.
func TestSumLeavesItsArgument(t *testing.T) {
	l := []int{4, 5, 6, 9}
	if got, err := wide.Sum(l[:3]); got != (api.Wide{Lo: 15}) || err != api.OK {
		t.Errorf("%v, %v", got, err)
	}
	if !slices.Equal(l, []int{4, 5, 6, 9}) {
		t.Errorf("changed: %v", l)
	}
}

// P1.2

func TestCmp(t *testing.T) {
	for _, a := range wides() {
		for _, b := range wides() {
			if got := wide.Cmp(a, b); got != bigOf(a).Cmp(bigOf(b)) {
				t.Fatalf("Cmp(%v, %v): %d", a, b, got)
			}
		}
	}
}

func TestMore(t *testing.T) {
	few := []int{0, 1, 2, 3, 1 << 62, math.MaxInt - 1, math.MaxInt}
	for _, a := range wides() {
		for _, b := range wides() {
			for _, n := range few {
				for _, m := range few {
					checkMore(t, a, n, b, m)
				}
			}
		}
	}
}

func checkMore(t *testing.T, a api.Wide, n int, b api.Wide, m int) {
	t.Helper()
	left := new(big.Int).Mul(bigOf(a), big.NewInt(int64(n)))
	right := new(big.Int).Mul(bigOf(b), big.NewInt(int64(m)))
	if got, err := wide.More(a, n, b, m); got != (left.Cmp(right) > 0) || err != api.OK {
		t.Fatalf("More(%v, %d, %v, %d): %v, %v", a, n, b, m, got, err)
	}
}

// TestMoreByOne has products that need more than 128 bits and differ by little: a n and (a + 1) n, a n and a (n - 1), equal ones.
func TestMoreByOne(t *testing.T) {
	for _, a := range wides() {
		for _, n := range factors() {
			checkMore(t, a, n, a, n)
			if n > 0 {
				checkMore(t, a, n, a, n-1)
				checkMore(t, a, n-1, a, n)
			}
			if a != full {
				next := wideOf(new(big.Int).Add(bigOf(a), big.NewInt(1)))
				checkMore(t, next, n, a, n)
				checkMore(t, a, n, next, n)
			}
		}
	}
	if is, err := wide.More(full, 1<<62, api.Wide{Hi: top, Lo: top - 1}, 1<<62); !is || err != api.OK {
		t.Errorf("%v, %v", is, err)
	}
}

func TestMoreOfNegatives(t *testing.T) {
	for _, n := range negatives {
		for _, r := range [][2]int{{n, 0}, {n, 1}, {n, math.MaxInt}, {0, n}, {1, n}, {math.MaxInt, n}, {n, n}} {
			if is, err := wide.More(full, r[0], api.Wide{Lo: 1}, r[1]); is || err != api.ErrRange {
				t.Errorf("More of %v: %v, %v", r, is, err)
			}
			if is, err := wide.More(api.Wide{}, r[0], api.Wide{}, r[1]); is || err != api.ErrRange {
				t.Errorf("More of %v: %v, %v", r, is, err)
			}
		}
	}
}

func TestClamp(t *testing.T) {
	for _, a := range wides() {
		want := math.MaxInt
		if b := bigOf(a); b.IsInt64() {
			want = int(b.Int64())
		}
		if got := wide.Clamp(a); got != want {
			t.Errorf("Clamp(%v): %d", a, got)
		}
	}
}

// P1.4

func TestSumsHaveNoOrder(t *testing.T) {
	for _, a := range wides() {
		for _, b := range wides() {
			one, err := wide.Plus(a, b)
			two, fault := wide.Plus(b, a)
			if one != two || err != fault {
				t.Fatalf("%v, %v", a, b)
			}
		}
	}
	l := factors()
	forth, err := wide.Sum(l)
	slices.Reverse(l)
	back, fault := wide.Sum(l)
	if forth != back || err != api.OK || fault != api.OK {
		t.Errorf("%v, %v; %v, %v", forth, err, back, fault)
	}
}

// TestSumsAreGroupedAsOneLikes adds three wides in both groupings.
func TestSumsAreGroupedAsOneLikes(t *testing.T) {
	l := wides()
	for i, a := range l {
		b, c := l[(i*7+3)%len(l)], l[(i*11+5)%len(l)]
		ab, err := wide.Plus(a, b)
		bc, fault := wide.Plus(b, c)
		if err != api.OK || fault != api.OK {
			continue
		}
		left, err := wide.Plus(ab, c)
		right, fault := wide.Plus(a, bc)
		if left != right || err != fault {
			t.Errorf("%v, %v, %v", a, b, c)
		}
	}
}

func TestProductsHaveNoOrder(t *testing.T) {
	for _, n := range factors() {
		for _, m := range factors() {
			a, err := wide.Of(n)
			b, fault := wide.Of(m)
			if err != api.OK || fault != api.OK {
				t.Fatalf("Of(%d): %v; Of(%d): %v", n, err, m, fault)
			}
			one, err := wide.Times(a, m)
			two, fault := wide.Times(b, n)
			if one != two || err != api.OK || fault != api.OK {
				t.Errorf("%d, %d: %v, %v; %v, %v", n, m, one, err, two, fault)
			}
		}
	}
}

// TestProductsAreDistributive compares (a + b) n to a n + b n, and a (n + m) to a n + a m.
func TestProductsAreDistributive(t *testing.T) {
	l := wides()
	for i, a := range l {
		b := l[(i*5+1)%len(l)]
		for _, n := range []int{0, 1, 2, 3, 1 << 32, 1 << 61} {
			an, err := wide.Times(a, n)
			bn, fault := wide.Times(b, n)
			ab, lack := wide.Plus(a, b)
			if err == api.OK && fault == api.OK && lack == api.OK {
				sum, err := wide.Plus(an, bn)
				whole, fault := wide.Times(ab, n)
				if sum != whole || err != fault {
					t.Errorf("(%v + %v) %d", a, b, n)
				}
			}
			am, fault := wide.Times(a, n+7)
			if err == api.OK && fault == api.OK {
				sum, err := wide.Plus(an, am)
				whole, fault := wide.Times(a, n+n+7)
				if sum != whole || err != fault {
					t.Errorf("%v (%d + %d)", a, n, n+7)
				}
			}
		}
	}
}

func TestMoreAgreesWithCmp(t *testing.T) {
	for _, a := range wides() {
		for _, b := range wides() {
			for _, n := range []int{0, 1, 3, 1 << 40} {
				for _, m := range []int{0, 1, 4, 1 << 39} {
					an, err := wide.Times(a, n)
					bm, fault := wide.Times(b, m)
					if err != api.OK || fault != api.OK {
						continue
					}
					if is, err := wide.More(a, n, b, m); is != (wide.Cmp(an, bm) > 0) || err != api.OK {
						t.Fatalf("More(%v, %d, %v, %d): %v, %v", a, n, b, m, is, err)
					}
				}
			}
		}
	}
}

type pair struct {
	a api.Wide
	n int
}

// TestMoreIsTransitive sorts products by More: each must be more than those before it that are not equal to it, and never both ways.
func TestMoreIsTransitive(t *testing.T) {
	var l []pair
	for i, a := range wides() {
		f := factors()
		l = append(l, pair{a, f[i%len(f)]}, pair{a, f[(i*3+1)%len(f)]})
	}
	slices.SortFunc(l, func(p, q pair) int {
		left := new(big.Int).Mul(bigOf(p.a), big.NewInt(int64(p.n)))
		return left.Cmp(new(big.Int).Mul(bigOf(q.a), big.NewInt(int64(q.n))))
	})
	more := func(p, q pair) bool {
		is, err := wide.More(p.a, p.n, q.a, q.n)
		if err != api.OK {
			t.Fatalf("%v, %v: %v", p, q, err)
		}
		return is
	}
	for i, p := range l {
		step := false // whether there was a greater one on the way to p
		for j := i - 1; j >= 0; j-- {
			step = step || more(l[j+1], l[j])
			if more(p, l[j]) != step || more(l[j], p) {
				t.Fatalf("%v, %v", p, l[j])
			}
		}
	}
}
