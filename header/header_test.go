package header_test

import (
	"math"
	"strings"
	"testing"

	"landfall/api"
	"landfall/header"
)

const (
	maxInt = math.MaxInt
	minInt = math.MinInt
	// runes is all that a name may have.
	runes = "abcdefghijklmnopqrstuvwxyz0123456789-"
)

// mix returns the next number of a fixed sequence without a visible pattern.
func mix(x uint64) uint64 {
	x += 0x9e3779b97f4a7c15
	x = (x ^ x>>30) * 0xbf58476d1ce4e5b9
	x = (x ^ x>>27) * 0x94d049bb133111eb
	return x ^ x>>31
}

// names returns names: of every length, with every rune, and some without a visible pattern.
func names() []string {
	l := []string{"a", "z", "0", "9", "-", "a-1", "-a", "a-", "--", "sea", "landfall-1", runes[:32], runes[5:]}
	for n := 1; n <= api.MaxName; n++ {
		l = append(l, strings.Repeat("a", n), strings.Repeat("-", n), strings.Repeat("9", n))
		var b []byte
		for at := range n {
			b = append(b, runes[mix(uint64(n<<8+at))%uint64(len(runes))])
		}
		l = append(l, string(b))
	}
	for at := range len(runes) {
		l = append(l, runes[at:at+1])
	}
	return l
}

// noNames returns texts that are no names: too short or too long, or with a rune, or a byte, that no name has.
func noNames() []string {
	l := []string{
		"", "A", "Z", "aB", " ", "a ", " a", "a b", "a_b", "a.b", "a/b", "a\n", "\x00", "a\x00", "`", "{", "/", ":", ",", ".", "@", "[", "+",
		"é", "aé", "ä", "ß", "ａ", "０", "а", "٣", "\u2010", "\u2011", "\u2212", "\u00ad", "\uFFFD", "\U0001F600", "a\u0301",
		"\xff", "a\xff", "\xc3", "a\xc3", "\xe1\xa1", "\x80", "\xed\xa0\x80", "\xc1\xa1", // the last ones are surrogates, and a written too long
		strings.Repeat("a", 33), strings.Repeat("a", 34), strings.Repeat("a", 64), strings.Repeat("a", 256), strings.Repeat("a", 100000), strings.Repeat("-", 33), strings.Repeat("A", 33),
		strings.Repeat("a", 31) + "é", strings.Repeat("é", 16), strings.Repeat("é", 32), runes,
	}
	for b := range 256 {
		if !strings.Contains(runes, string([]byte{byte(b)})) {
			l = append(l, string([]byte{byte(b)}))
		}
	}
	return l
}

// hashOf returns a hash without a visible pattern.
func hashOf(seed uint64) (h api.Hash) {
	for at := range h {
		h[at] = byte(mix(seed<<8 + uint64(at)))
	}
	return h
}

// numbered returns a header with that name, height and time, and four different hashes.
func numbered(chain string, height, time int) api.Header {
	return api.Header{Chain: chain, Height: height, Time: time, Prev: hashOf(1), Vals: hashOf(2), Next: hashOf(3), App: hashOf(4)}
}

// heights and times return valid ones: the edges of the range, and of the numbers' forms.
func heights() []int {
	return []int{1, 2, 3, 255, 256, 257, 1<<16 - 1, 1 << 16, 1<<24 - 1, 1 << 24, api.MaxHeight - 1, api.MaxHeight}
}

func times() []int {
	return []int{0, 1, 2, 255, 256, 1<<16 - 1, 1 << 16, 1<<24 - 1, 1 << 24, api.MaxHeight, api.MaxHeight + 1, 1<<32 - 1, 1 << 32, 1<<40 - 1, api.MaxTime}
}

// noHeights and noTimes return those that are not in range.
func noHeights() []int {
	return []int{0, -1, -2, minInt, api.MaxHeight + 1, api.MaxHeight + 2, 1 << 31, 1 << 32, 1<<32 + 1, api.MaxTime, maxInt}
}

func noTimes() []int {
	return []int{-1, -2, minInt, minInt + 1, api.MaxTime + 1, api.MaxTime + 2, 1 << 41, 1 << 62, maxInt}
}

// headers returns valid headers, with all names, heights and times that are edges, and hashes of every kind.
func headers() []api.Header {
	l := []api.Header{{Chain: "a", Height: 1, Time: 2}, {Chain: "a", Height: 1}, {Chain: strings.Repeat("z", 32), Height: api.MaxHeight, Time: api.MaxTime}}
	for _, name := range names() {
		l = append(l, numbered(name, 7, 9))
	}
	for _, height := range heights() {
		for _, time := range times() {
			l = append(l, numbered("sea-2", height, time))
		}
	}
	for at := range 32 {
		for place := range 4 {
			h := numbered("sea", 5, 6)
			var one api.Hash
			one[at] = 0xff
			*[]*api.Hash{&h.Prev, &h.Vals, &h.Next, &h.App}[place] = one
			l = append(l, h)
		}
	}
	return l
}

// wrong is a header that is not valid, and why.
type wrong struct {
	h   api.Header
	err api.Errno
}

// wrongs returns headers that are not valid for each reason, and for several at once.
func wrongs() []wrong {
	l := []wrong{{api.Header{}, api.ErrForm}, {api.Header{Chain: "a"}, api.ErrRange}, {api.Header{Chain: "A"}, api.ErrForm}, {api.Header{Chain: "a", Height: 1, Time: -1}, api.ErrRange}}
	for _, name := range noNames() {
		l = append(l, wrong{numbered(name, 7, 9), api.ErrForm}, wrong{numbered(name, 0, -1), api.ErrForm}, wrong{numbered(name, 1, maxInt), api.ErrForm})
	}
	for _, height := range noHeights() {
		l = append(l, wrong{numbered("sea", height, 9), api.ErrRange}, wrong{numbered("sea", height, 0), api.ErrRange}, wrong{numbered("SEA", height, 9), api.ErrForm})
		for _, time := range noTimes() {
			l = append(l, wrong{numbered("sea", height, time), api.ErrRange}, wrong{numbered("", height, time), api.ErrForm})
		}
	}
	for _, time := range noTimes() {
		l = append(l, wrong{numbered("sea", 7, time), api.ErrRange}, wrong{numbered("sea", 1, time), api.ErrRange}, wrong{numbered("sea ", 7, time), api.ErrForm})
	}
	return l
}

// P6.1

func TestName(t *testing.T) {
	for _, s := range names() {
		if !header.Name(s) {
			t.Errorf("%q is no name", s)
		}
	}
	for _, s := range noNames() {
		if header.Name(s) {
			t.Errorf("%q is a name", s)
		}
	}
}

// TestNameOfEachByte has each byte at each place of a name, first, between others, and last.
func TestNameOfEachByte(t *testing.T) {
	for _, n := range []int{1, 2, 3, 31, 32} {
		for at := range n {
			for b := range 256 {
				s := []byte(strings.Repeat("x", n))
				s[at] = byte(b)
				want := b < 128 && strings.IndexByte(runes, byte(b)) >= 0
				if header.Name(string(s)) != want {
					t.Errorf("%q: not %v", s, want)
				}
			}
		}
	}
}

// TestNameOfEachRune has each rune alone, where bytes and runes are not to be confused.
func TestNameOfEachRune(t *testing.T) {
	for r := rune(0); r < 0x11000; r++ {
		want := strings.ContainsRune(runes, r) && r < 128
		if header.Name(string(r)) != want || header.Name("a"+string(r)) != want {
			t.Errorf("%U: not %v", r, want)
		}
	}
}

func TestCheck(t *testing.T) {
	for _, h := range headers() {
		if err := header.Check(h); err != api.OK {
			t.Errorf("%v: %v", h, err)
		}
	}
	for _, r := range wrongs() {
		if err := header.Check(r.h); err != r.err {
			t.Errorf("%.60q, %d, %d: %v, not %v", r.h.Chain, r.h.Height, r.h.Time, err, r.err)
		}
	}
}
