package pace_test

import (
	"cmp"
	"math"
	"math/big"
	"slices"
	"testing"

	"landfall/pace"
)

const (
	signBit  = uint64(1) << 63
	infinity = uint64(0x7FF0000000000000)
	nanForm  = uint64(0x7FF8000000000000)
	least    = math.SmallestNonzeroFloat64 // the unit of the numbers below the normal ones
)

var (
	minus = math.Copysign(0, -1)
	inf   = math.Inf(1)
	nan   = math.NaN()
)

// mix returns the next number of a fixed sequence without a visible pattern.
func mix(x uint64) uint64 {
	x += 0x9e3779b97f4a7c15
	x = (x ^ x>>30) * 0xbf58476d1ce4e5b9
	x = (x ^ x>>27) * 0x94d049bb133111eb
	return x ^ x>>31
}

// nans returns bits of NaNs that are not the form of one.
func nans() []uint64 {
	l := []uint64{infinity + 1, infinity + 2, nanForm - 1, nanForm + 1, signBit - 1, signBit | nanForm, signBit | infinity + 1, signBit | nanForm - 1, signBit | nanForm + 1, math.MaxUint64}
	for bit := range 52 {
		if bits := infinity | 1<<bit; bits != nanForm {
			l = append(l, bits, signBit|bits)
		}
	}
	for x := uint64(1); x < 100; x++ {
		l = append(l, mix(x)|infinity|1)
	}
	return l
}

// forms returns the forms of paces at all edges of the order, and some between them, of both signs.
func forms() []uint64 {
	const normal = 1 << 52 // the least normal number
	l := []uint64{0, 1, 2, 3, 4, 5, 7, 8, 12, normal / 2, normal - 1, normal, normal + 1, 2*normal - 1, 2 * normal, infinity - 2, infinity - 1, infinity}
	for _, x := range []float64{1, 2, 3, 8, 9, 16, 0.1, 1.0 / 3, 1 << 52, 1<<53 - 1, 1 << 53, 1e300, 1e-300, math.MaxFloat64 / 2, math.MaxFloat64 / 8} {
		bits := math.Float64bits(x)
		l = append(l, bits-1, bits, bits+1)
	}
	for x := uint64(1); x <= 40; x++ {
		l = append(l, mix(x)%infinity)
	}
	for _, bits := range l {
		l = append(l, signBit|bits)
	}
	slices.Sort(l)
	return append(slices.Compact(l), nanForm)
}

// paces returns the paces of forms, and NaNs of other bits.
func paces() []float64 {
	var l []float64
	for _, bits := range append(forms(), nans()[:20]...) {
		l = append(l, math.Float64frombits(bits))
	}
	return l
}

// rank returns the place of x in the order of paces, which grows with it: negative numbers are the lower half, backwards.
func rank(x float64) uint64 {
	bits := math.Float64bits(x)
	switch {
	case bits&^signBit > infinity:
		return math.MaxUint64
	case bits&signBit != 0:
		return ^bits
	}
	return bits | signBit
}

// P2.1

func TestCompare(t *testing.T) {
	for _, r := range []struct {
		a, b float64
		want int
	}{
		{minus, 0, -1}, {0, minus, 1}, {0, 0, 0}, {minus, minus, 0},
		{nan, inf, 1}, {inf, nan, -1}, {nan, nan, 0}, {nan, -inf, 1}, {-inf, nan, -1}, {nan, 0, 1}, {nan, minus, 1}, {-1, nan, -1},
		{1, 2, -1}, {2, 1, 1}, {-1, -2, 1}, {-2, -1, -1}, {-1, 1, -1}, {7, 7, 0}, {-7, -7, 0},
		{-inf, -1, -1}, {-inf, -math.MaxFloat64, -1}, {-inf, -inf, 0}, {inf, inf, 0}, {inf, math.MaxFloat64, 1}, {-inf, inf, -1},
		{least, 0, 1}, {-least, minus, -1}, {-least, least, -1}, {least, 2 * least, -1}, {minus, least, -1}, {0, -least, 1},
	} {
		if got := pace.Compare(r.a, r.b); got != r.want {
			t.Errorf("Compare(%x, %x): %d", r.a, r.b, got)
		}
	}
}

func TestCompareOfAll(t *testing.T) {
	l := paces()
	for _, a := range l {
		for _, b := range l {
			if got := pace.Compare(a, b); got != cmp.Compare(rank(a), rank(b)) {
				t.Fatalf("Compare(%x, %x): %d", math.Float64bits(a), math.Float64bits(b), got)
			}
		}
	}
}

func TestCompareOfEveryNaN(t *testing.T) {
	for _, bits := range nans() {
		a := math.Float64frombits(bits)
		if pace.Compare(a, nan) != 0 || pace.Compare(nan, a) != 0 || pace.Compare(a, a) != 0 {
			t.Errorf("%x: not the same as NaN", bits)
		}
		if pace.Compare(a, inf) != 1 || pace.Compare(inf, a) != -1 || pace.Compare(a, -inf) != 1 {
			t.Errorf("%x: not above infinity", bits)
		}
	}
}

// P2.3

// exact returns what an operation on numbers gives, rounded once: it has room for every digit of a sum, difference or eighth of two float64s.
func exact(operation func(z, x, y *big.Float) *big.Float, x, y float64) float64 {
	z := new(big.Float).SetPrec(3000)
	a := new(big.Float).SetFloat64(x)
	b := new(big.Float).SetFloat64(y)
	rounded, _ := operation(z, a, b).Float64()
	return rounded
}

// smoothOf returns Smooth of two finite numbers, where the difference may be infinite.
func smoothOf(old, x float64) float64 {
	difference := exact((*big.Float).Sub, x, old)
	if math.IsInf(difference, 0) {
		return difference
	}
	eighth := exact((*big.Float).Quo, difference, 8)
	return exact((*big.Float).Add, old, eighth)
}

func finite() []float64 {
	return slices.DeleteFunc(paces(), func(x float64) bool { return math.IsNaN(x) || math.IsInf(x, 0) })
}

// same reports whether two paces are the same to the sign of a zero; all NaNs are one.
func same(a, b float64) bool {
	return rank(a) == rank(b)
}

func checkSmooth(t *testing.T, old, x, want float64) {
	t.Helper()
	if got := pace.Smooth(old, x); !same(got, want) {
		t.Errorf("Smooth(%x, %x): %x, not %x", old, x, got, want)
	}
}

func TestSmooth(t *testing.T) {
	for _, r := range [][3]float64{
		{8, 16, 9}, {16, 8, 15}, {0, 1, 0.125}, {0, -1, -0.125}, {-8, 8, -6}, {5, 5, 5}, {1, 2, 1.125},
		{minus, minus, 0}, {minus, 0, 0}, {0, minus, 0}, {0, 0, 0},
	} {
		checkSmooth(t, r[0], r[1], r[2])
	}
}

func TestSmoothOfNaN(t *testing.T) {
	for _, x := range paces() {
		checkSmooth(t, nan, x, x)
		checkSmooth(t, math.Float64frombits(signBit|nanForm|5), x, x)
		checkSmooth(t, x, nan, nan)
		checkSmooth(t, x, math.Float64frombits(infinity|1), nan)
	}
}

func TestSmoothOfInfinities(t *testing.T) {
	checkSmooth(t, inf, inf, nan)
	checkSmooth(t, -inf, -inf, nan)
	checkSmooth(t, inf, -inf, nan)
	checkSmooth(t, -inf, inf, nan)
	for _, x := range finite() {
		checkSmooth(t, x, inf, inf)
		checkSmooth(t, x, -inf, -inf)
		checkSmooth(t, inf, x, nan)
		checkSmooth(t, -inf, x, nan)
	}
}

// TestSmoothRounds has differences, eighths and sums that are rounded, to even where both neighbours are as near.
func TestSmoothRounds(t *testing.T) {
	const large = 1 << 53 // above it, numbers are 2 apart; from 2^49 to 2^50 an eighth
	for _, r := range [][3]float64{
		{-1, large, large/8 - 1}, {-1, large + 2, large/8 - 0.5}, {1, -large, 1 - large/8}, // the difference
		{0, 4 * least, 0}, {0, 5 * least, least}, {0, 11 * least, least}, {0, 12 * least, 2 * least}, {0, 20 * least, 2 * least}, // the eighth
		{0, -4 * least, 0}, {minus, -4 * least, minus}, {minus, 4 * least, 0}, {minus, -5 * least, -least},
		{large, large + 8, large}, {large, large + 16, large + 2}, {large + 2, large + 10, large + 4}, {large, large - 4, large}, // the sum
		{least, 5 * least, least}, {3 * least, 7 * least, 3 * least}, {least, 13 * least, 3 * least}, {-least, 3 * least, -least}, // the eighth ahead of the sum
	} {
		checkSmooth(t, r[0], r[1], r[2])
	}
}

func TestSmoothOverflows(t *testing.T) {
	const most = math.MaxFloat64
	for _, r := range [][3]float64{
		{-most, most, inf}, {most, -most, -inf}, {-most / 2, most, inf}, {most / 2, -most, -inf}, {-most, most / 2, inf},
		{most, most, most}, {-most, -most, -most}, {0, most, most / 8}, {most, 0, most - most/8}, {-most / 2, most / 2, -most/2 + most/8},
		{-most, math.Ldexp(1, 969), -most + most/8}, {-most, math.Ldexp(1, 970), inf}, {most, -math.Ldexp(1, 970), -inf}, // the least one that overflows
	} {
		checkSmooth(t, r[0], r[1], r[2])
	}
}

func TestSmoothOfAllFinite(t *testing.T) {
	l := finite()
	for _, old := range l {
		for _, x := range l {
			checkSmooth(t, old, x, smoothOf(old, x))
		}
	}
}

// TestSmoothOfNear has numbers that are of like size, and those below the normal ones, where the eighth is rounded.
func TestSmoothOfNear(t *testing.T) {
	for x := uint64(1); x < 4000; x++ {
		a, b := mix(x), mix(x+1<<32)
		small, other := float64(a%1000)*least, float64(b%1000)*least
		checkSmooth(t, small, other, smoothOf(small, other))
		checkSmooth(t, -small, other, smoothOf(-small, other))
		near, by := math.Float64frombits(a%infinity), math.Float64frombits(a%infinity^b>>40)
		if !math.IsInf(by, 0) && !math.IsNaN(by) {
			checkSmooth(t, near, by, smoothOf(near, by))
			checkSmooth(t, near, -by, smoothOf(near, -by))
		}
	}
}

func TestMean(t *testing.T) {
	for _, r := range []struct {
		l    []float64
		want float64
	}{
		{nil, nan}, {[]float64{}, nan}, {[]float64{8}, 8}, {[]float64{minus}, minus}, {[]float64{minus, minus}, 0}, {[]float64{inf}, inf}, {[]float64{nan}, nan},
		{[]float64{8, 16}, 9}, {[]float64{16, 8}, 15}, {[]float64{8, 16, 1}, 8}, {[]float64{0, 8, 9, 18}, 4},
		{[]float64{nan, 8}, 8}, {[]float64{nan, nan, 8, 16}, 9}, {[]float64{8, nan}, nan}, {[]float64{8, nan, 16}, 16},
		{[]float64{8, inf}, inf}, {[]float64{8, inf, 9}, nan}, {[]float64{8, inf, 9, 7}, 7}, {[]float64{inf, inf, minus}, minus},
		{[]float64{math.MaxFloat64, -math.MaxFloat64}, -inf}, {[]float64{4 * least, 0}, 4 * least},
	} {
		if got := pace.Mean(r.l); !same(got, r.want) {
			t.Errorf("Mean(%v): %x, not %x", r.l, got, r.want)
		}
	}
}

// TestMeanIsSmoothOfEach has lists of all lengths, of paces of every kind.
func TestMeanIsSmoothOfEach(t *testing.T) {
	l := paces()
	for i := range l {
		j := int(mix(uint64(i)) % uint64(i+1))
		l[i], l[j] = l[j], l[i]
	}
	want := nan
	for n := range l {
		if got := pace.Mean(l[:n]); !same(got, want) {
			t.Fatalf("%d of %x: %x, not %x", n, l[:n], got, want)
		}
		want = pace.Smooth(want, l[n])
	}
}

func TestLeast(t *testing.T) {
	for _, r := range []struct {
		l    []float64
		want int
	}{
		{nil, -1}, {[]float64{}, -1}, {[]float64{5}, 0}, {[]float64{nan}, 0}, {[]float64{inf}, 0}, {[]float64{nan, nan}, 0},
		{[]float64{1, minus, 0}, 1}, {[]float64{0, minus}, 1}, {[]float64{minus, 0}, 0}, {[]float64{0, 0, minus, minus}, 2},
		{[]float64{3, 1, 2, 1}, 1}, {[]float64{1, 1, 1}, 0}, {[]float64{3, 2, 1}, 2}, {[]float64{nan, inf}, 1}, {[]float64{nan, nan, 4, nan}, 2},
		{[]float64{inf, -inf, -inf}, 1}, {[]float64{-1, -2, -math.MaxFloat64, -inf}, 3}, {[]float64{least, -least, 0}, 1},
	} {
		if got := pace.Least(r.l); got != r.want {
			t.Errorf("Least(%v): %d, not %d", r.l, got, r.want)
		}
	}
}

func TestLeastOfAll(t *testing.T) {
	l := paces()
	for from := range l {
		for to := from + 1; to <= len(l); to += 1 + to/8 {
			at := pace.Least(l[from:to])
			for i, x := range l[from:to] {
				if rank(x) < rank(l[from+at]) || i < at && rank(x) == rank(l[from+at]) {
					t.Fatalf("%x: %d", l[from:to], at)
				}
			}
		}
	}
}

// TestListsStayAsTheyAre looks at the spare capacity as well: a NaN and the least pace stand in it.
func TestListsStayAsTheyAre(t *testing.T) {
	l := []float64{8, 16, nan, -inf}
	if got := pace.Mean(l[:2]); got != 9 {
		t.Errorf("Mean: %x", got)
	}
	if got := pace.Least(l[:2]); got != 0 {
		t.Errorf("Least: %d", got)
	}
	if !slices.EqualFunc(l, []float64{8, 16, nan, -inf}, same) {
		t.Errorf("changed: %x", l)
	}
}

// P2.4

// TestOrderIsTotal sorts paces: each must be equal to or greater than all before it, and never both ways.
func TestOrderIsTotal(t *testing.T) {
	l := paces()
	slices.SortFunc(l, func(a, b float64) int { return cmp.Compare(rank(a), rank(b)) })
	for i, a := range l {
		step := 0 // whether there was a greater one on the way to a
		for j := i; j >= 0; j-- {
			if j < i {
				step = max(step, pace.Compare(l[j+1], l[j]))
			}
			if pace.Compare(a, l[j]) != step || pace.Compare(l[j], a) != -step {
				t.Fatalf("%x, %x", a, l[j])
			}
		}
	}
}

func TestEqualExactlyIfTheFormsAre(t *testing.T) {
	l := paces()
	for _, a := range l {
		for _, b := range l {
			equal := pace.Compare(a, b) == 0
			if equal != (pace.Bits(a) == pace.Bits(b)) || equal != (pace.Text(a) == pace.Text(b)) {
				t.Fatalf("%x, %x", math.Float64bits(a), math.Float64bits(b))
			}
		}
	}
}

// P2.5

func TestSmoothStaysBetween(t *testing.T) {
	l := finite()
	for x := uint64(1); x < 500; x++ {
		l = append(l, float64(mix(x)%64)*least, math.Float64frombits(mix(x)%infinity))
	}
	for _, old := range l {
		for _, x := range l {
			if math.IsInf(x-old, 0) {
				continue
			}
			if got := pace.Smooth(old, x); !(got >= min(old, x) && got <= max(old, x)) {
				t.Fatalf("Smooth(%x, %x): %x", old, x, got)
			}
		}
	}
}
