package vals_test

import (
	"slices"
	"testing"

	"landfall/api"
	"landfall/vals"
)

// expect returns what Change must return, by a map from keys to powers; l is a valid set.
func expect(l, changes []api.Validator) ([]api.Validator, api.Errno) {
	power := map[api.Key]int{}
	for _, v := range l {
		power[v.Key] = v.Power
	}
	for at, v := range changes {
		switch _, has := power[v.Key]; {
		case at > 0 && string(v.Key[:]) <= string(changes[at-1].Key[:]):
			return nil, api.ErrOrder
		case v.Power < 0 || v.Power > api.MaxPower:
			return nil, api.ErrRange
		case v.Power == 0 && !has:
			return nil, api.ErrUnknown
		}
	}
	for _, v := range changes {
		power[v.Key] = v.Power
		if v.Power == 0 {
			delete(power, v.Key)
		}
	}
	switch {
	case len(power) == 0:
		return nil, api.ErrShort
	case len(power) > api.MaxVals:
		return nil, api.ErrFull
	}
	var out []api.Validator
	for k, p := range power {
		out = append(out, api.Validator{Key: k, Power: p})
	}
	slices.SortFunc(out, func(a, b api.Validator) int { return slices.Compare(a.Key[:], b.Key[:]) })
	return out, api.OK
}

// checkChange reports whether changes make of l what they must.
func checkChange(t *testing.T, l, changes []api.Validator) {
	t.Helper()
	want, fault := expect(l, changes)
	if got, err := vals.Change(l, changes); !slices.Equal(got, want) || err != fault {
		t.Errorf("Change(%v, %v): %v, %v, not %v, %v", l, changes, got, err, want, fault)
	}
}

// P5.3

func TestChange(t *testing.T) {
	for _, r := range []struct {
		l, changes, want []api.Validator
		err              api.Errno
	}{
		{of(1, 5, 2, 7), of(1, 0, 3, 2), of(2, 7, 3, 2), api.OK},
		{of(1, 5), of(1, 0), nil, api.ErrShort},
		{of(1, 5), of(2, 0), nil, api.ErrUnknown},
		{of(1, 5), of(1, 9), of(1, 9), api.OK},
		{of(1, 5), of(3, 1, 2, 1), nil, api.ErrOrder},
		{of(1, 5, 2, 7), nil, of(1, 5, 2, 7), api.OK},
		{of(1, 5, 2, 7), []api.Validator{}, of(1, 5, 2, 7), api.OK},
		{of(1, 5, 2, 7), of(1, 5), of(1, 5, 2, 7), api.OK},
		{of(2, 5), of(1, 1), of(1, 1, 2, 5), api.OK},
		{of(2, 5), of(1, 1, 3, 1), of(1, 1, 2, 5, 3, 1), api.OK},
		{of(1, 5, 3, 7), of(2, 6), of(1, 5, 2, 6, 3, 7), api.OK},
		{of(1, 5, 2, 7, 3, 9), of(1, 0), of(2, 7, 3, 9), api.OK},
		{of(1, 5, 2, 7, 3, 9), of(2, 0), of(1, 5, 3, 9), api.OK},
		{of(1, 5, 2, 7, 3, 9), of(3, 0), of(1, 5, 2, 7), api.OK},
		{of(1, 5, 2, 7, 3, 9), of(1, 0, 3, 0), of(2, 7), api.OK},
		{of(1, 5, 2, 7, 3, 9), of(1, 0, 2, 0, 3, 0), nil, api.ErrShort},
		{of(1, 5, 2, 7), of(1, 0, 2, 0, 3, 1), of(3, 1), api.OK},
		{of(2, 5, 3, 7), of(1, 4, 2, 0, 3, 0), of(1, 4), api.OK},
		{of(1, 5), of(1, api.MaxPower), of(1, api.MaxPower), api.OK},
		{of(1, 5), of(0, api.MaxPower, 0xffffffff, 1), of(0, api.MaxPower, 1, 5, 0xffffffff, 1), api.OK},
		{of(0x01000000, 1, 0x02000000, 2), of(0x01000000, 0, 0x02000000, 3), of(0x02000000, 3), api.OK},
		{of(0x7f, 1, 0x80, 2), of(0x7f, 0, 0x81, 3), of(0x80, 2, 0x81, 3), api.OK},
	} {
		if got, err := vals.Change(r.l, r.changes); !slices.Equal(got, r.want) || err != r.err {
			t.Errorf("Change(%v, %v): %v, %v", r.l, r.changes, got, err)
		}
		checkChange(t, r.l, r.changes)
	}
}

func TestChangeOfWrongSets(t *testing.T) {
	for at, r := range wrongs() {
		for _, changes := range [][]api.Validator{nil, of(1, 1), of(1, 0), of(1, 1, 1, 1), of(1, -1), row(0, 70, 1), r.l} {
			if got, err := vals.Change(r.l, changes); len(got) > 0 || err != r.err {
				t.Errorf("wrong %d: Change(%v, %v): %v, %v, not %v", at, r.l, changes, got, err, r.err)
			}
		}
	}
}

func TestWrongChanges(t *testing.T) {
	for _, r := range []struct {
		changes []api.Validator
		err     api.Errno
	}{
		{of(1, 1, 1, 1), api.ErrOrder}, {of(2, 1, 1, 1), api.ErrOrder}, {of(5, 0, 5, 0), api.ErrOrder}, {of(5, 0, 5, 1), api.ErrOrder}, {of(1, 1, 2, 1, 2, 1), api.ErrOrder}, {of(0x01000000, 1, 0x00ffffff, 1), api.ErrOrder}, {of(0x80000000, 1, 0x7f000000, 1), api.ErrOrder}, {of(0, 1, 0, 1), api.ErrOrder},
		{of(1, -1), api.ErrRange}, {of(5, -1), api.ErrRange}, {of(5, minInt), api.ErrRange}, {of(5, api.MaxPower+1), api.ErrRange}, {of(1, maxInt), api.ErrRange}, {of(1, 1, 2, -1), api.ErrRange},
		{of(1, 0), api.ErrUnknown}, {of(0, 0), api.ErrUnknown}, {of(9, 0), api.ErrUnknown}, {of(5, 0, 6, 0), api.ErrUnknown}, {of(4, 0, 5, 0), api.ErrUnknown}, {of(0x05000000, 0), api.ErrUnknown}, {of(1, 1, 5, 0, 7, 0, 8, 0), api.ErrUnknown},
		// several at one change
		{of(2, 1, 1, -1), api.ErrOrder}, {of(2, 1, 2, maxInt), api.ErrOrder}, {of(2, 1, 1, 0), api.ErrOrder}, {of(5, 0, 5, -1), api.ErrOrder},
		// several at different ones
		{of(2, -1, 1, 1), api.ErrRange}, {of(2, 0, 1, 1), api.ErrUnknown}, {of(2, 0, 3, -1), api.ErrUnknown}, {of(2, -1, 3, 0), api.ErrRange}, {of(2, 1, 1, 1, 3, -1), api.ErrOrder}, {of(2, 1, 1, 1, 3, 0), api.ErrOrder}, {of(3, 1, 4, 0, 4, 0), api.ErrUnknown},
		// and none would be left, or too many
		{of(5, 0, 7, 0), api.ErrShort}, {of(5, 0, 7, 0, 7, 0), api.ErrOrder}, {of(5, 0, 7, 0, 8, 0), api.ErrUnknown}, {of(5, 0, 7, 0, 8, -1), api.ErrRange}, {of(4, 0, 5, 0, 7, 0), api.ErrUnknown},
		{row(10, 63, 1), api.ErrFull}, {join(row(10, 70, 1), of(1, 1)), api.ErrOrder}, {join(row(10, 70, 1), of(100, -1)), api.ErrRange}, {join(row(10, 70, 1), of(100, 0)), api.ErrUnknown}, {row(10, 100000, 1), api.ErrFull}, {row(0, 200, 0), api.ErrUnknown},
	} {
		if got, err := vals.Change(of(5, 1, 7, 1), r.changes); len(got) > 0 || err != r.err {
			t.Errorf("%.300v: %v, %v, not %v", r.changes, got, err, r.err)
		}
	}
}

// TestChangeAtTheGreatestNumber has changes that leave just 64, and those that would leave 65 or more.
func TestChangeAtTheGreatestNumber(t *testing.T) {
	for n := 1; n <= api.MaxVals; n++ {
		l := row(5000, n, 3)
		for _, first := range []int{0, 9000} { // all ahead of the set, or all behind it
			free := api.MaxVals - n
			just := row(first, free, 4)
			if got, err := vals.Change(l, just); len(got) != api.MaxVals || err != api.OK {
				t.Errorf("%d and %d: %d, %v", n, free, len(got), err)
			}
			checkChange(t, l, just)
			for _, over := range []int{1, 2, 64, 1000} {
				if got, err := vals.Change(l, row(first, free+over, 4)); len(got) > 0 || err != api.ErrFull {
					t.Errorf("%d and %d: %v, %v", n, free+over, got, err)
				}
			}
		}
	}
	full := row(100, 64, 3)
	for _, r := range []struct {
		changes []api.Validator
		n       int
		err     api.Errno
	}{
		{nil, 64, api.OK}, {row(100, 64, 9), 64, api.OK}, {of(163, 9), 64, api.OK}, {of(99, 1), 0, api.ErrFull}, {of(164, 1), 0, api.ErrFull}, {of(99, 1, 163, 0), 64, api.OK}, {of(100, 0, 164, 1), 64, api.OK}, {of(100, 0, 164, 1, 165, 1), 0, api.ErrFull}, {of(98, 1, 99, 1, 163, 0), 0, api.ErrFull},
		{of(98, 1, 99, 1, 162, 0, 163, 0), 64, api.OK}, {of(130, 0), 63, api.OK}, {join(row(0, 64, 1), row(100, 64, 0)), 64, api.OK}, {join(row(0, 65, 1), row(100, 64, 0)), 0, api.ErrFull}, {join(row(100, 64, 0), row(300, 64, 1)), 64, api.OK}, {join(row(100, 64, 0), row(300, 65, 1)), 0, api.ErrFull},
		{row(100, 64, 0), 0, api.ErrShort}, {row(100, 63, 0), 1, api.OK}, {row(101, 63, 0), 1, api.OK},
	} {
		if got, err := vals.Change(full, r.changes); len(got) != r.n || err != r.err {
			t.Errorf("64 and %v: %d, %v", r.changes, len(got), err)
		}
		checkChange(t, full, r.changes)
	}
}

// TestChangeAtEveryPlace removes each one, gives it another power, and puts one beside it.
func TestChangeAtEveryPlace(t *testing.T) {
	for _, l := range sets() {
		for _, v := range l {
			for _, power := range []int{-1, 0, 1, api.MaxPower, api.MaxPower + 1} {
				for _, place := range []int{0, 3} {
					near := v.Key
					checkChange(t, l, []api.Validator{{Key: near, Power: power}})
					near[place]++
					checkChange(t, l, []api.Validator{{Key: near, Power: power}})
					near[place] -= 2
					checkChange(t, l, []api.Validator{{Key: near, Power: power}})
				}
			}
		}
		checkChange(t, l, nil)
		checkChange(t, l, l)
		for n := range len(l) + 1 {
			removed := slices.Clone(l)
			for at := range removed {
				removed[at].Power = 0
			}
			checkChange(t, l, removed[:n])
			checkChange(t, l, removed[n:])
		}
	}
}

// choices returns all lists with ascending keys below n, each with one of these powers or left out.
func choices(n int, powers ...int) [][]api.Validator {
	if n == 0 {
		return [][]api.Validator{nil}
	}
	fewer := choices(n-1, powers...)
	all := slices.Clone(fewer)
	for _, l := range fewer {
		for _, power := range powers {
			all = append(all, join(l, of(n-1, power)))
		}
	}
	return all
}

// TestChangesOfFewKeys has every set of four keys, and all changes of them that could be.
func TestChangesOfFewKeys(t *testing.T) {
	changes := choices(4, 0, 1, 3)
	for _, l := range choices(4, 1, 2)[1:] {
		for _, c := range changes {
			checkChange(t, l, c)
		}
	}
}

// TestChangesInAnyOrder has every set of three keys, and all lists of up to three changes, right and wrong.
func TestChangesInAnyOrder(t *testing.T) {
	lists := [][]api.Validator{nil}
	for at := 0; len(lists[at]) < 3; at++ {
		for k := range 3 {
			for _, power := range []int{-1, 0, 2, api.MaxPower + 1} {
				lists = append(lists, join(lists[at], of(k, power)))
			}
		}
	}
	for _, l := range choices(3, 1)[1:] {
		for _, c := range lists {
			checkChange(t, l, c)
		}
	}
}

func TestChangesWithoutAPattern(t *testing.T) {
	for seed := range uint64(20000) {
		l := row(0, 64, 5)
		c := row(0, 96, 7)
		at := uint64(0)
		drop := func(most uint64) func(api.Validator) bool {
			return func(api.Validator) bool { at++; return mix(seed<<10+at)%8 < most }
		}
		l = slices.DeleteFunc(l, drop(seed%8))
		c = slices.DeleteFunc(c, drop(seed/8%9))
		for i := range c {
			if _, has := vals.Find(l, c[i].Key); has && mix(seed<<10+uint64(i))%2 == 0 {
				c[i].Power = 0
			}
		}
		if len(l) > 0 {
			checkChange(t, l, c)
		}
	}
}

// TestChangedSetsAreNew changes what was returned, and what is behind it: neither argument may be reached by it.
func TestChangedSetsAreNew(t *testing.T) {
	for _, r := range [][2][]api.Validator{
		{of(1, 5, 2, 7), nil}, {of(1, 5, 2, 7), of(1, 0)}, {of(1, 5, 2, 7), of(2, 0)}, {of(1, 5, 2, 7), of(3, 1)}, {of(1, 5, 2, 7), of(0, 1)}, {of(1, 5), of(1, 6)}, {of(1, 5, 2, 7), of(1, 1, 2, 1)}, {of(1, 5, 2, 7), of(1, 0, 2, 0, 3, 1, 4, 1)}, {row(0, 64, 1), nil}, {row(0, 64, 1), row(0, 64, 2)},
	} {
		l, changes := join(r[0], of(9, 9, 9, 9)), join(r[1], of(8, 8, 8, 8))
		got, err := vals.Change(l[:len(r[0])], changes[:len(r[1])])
		want, fault := expect(r[0], r[1])
		for at := range got[:cap(got)] {
			got[:cap(got)][at].Power = -7
		}
		if !slices.Equal(l, join(r[0], of(9, 9, 9, 9))) || !slices.Equal(changes, join(r[1], of(8, 8, 8, 8))) || err != fault {
			t.Errorf("Change(%v, %v): %v: %v, %v", r[0], r[1], err, l, changes)
		}
		again, err := vals.Change(r[0], r[1])
		if !slices.Equal(again, want) || err != fault {
			t.Errorf("Change(%v, %v) again: %v, %v", r[0], r[1], again, err)
		}
	}
}

// P5.4

// difference returns what distinguishes to from l.
func difference(l, to []api.Validator) []api.Validator {
	var changes []api.Validator
	for _, v := range l {
		if _, has := vals.Find(to, v.Key); !has {
			changes = append(changes, api.Validator{Key: v.Key})
		}
	}
	for _, v := range to {
		if !slices.Contains(l, v) {
			changes = append(changes, v)
		}
	}
	slices.SortFunc(changes, func(a, b api.Validator) int { return slices.Compare(a.Key[:], b.Key[:]) })
	return changes
}

func checkDifference(t *testing.T, l, to []api.Validator) {
	t.Helper()
	changes := difference(l, to)
	if got, err := vals.Change(l, changes); !slices.Equal(got, to) || err != api.OK {
		t.Errorf("Change(%v, %v): %v, %v, not %v", l, changes, got, err, to)
	}
}

// TestWhatDistinguishesSets changes each set into each other one.
func TestWhatDistinguishesSets(t *testing.T) {
	few := choices(5, 1, 2)[1:]
	for _, l := range few {
		for _, to := range few {
			checkDifference(t, l, to)
		}
	}
	all := sets()
	for _, l := range all {
		for _, to := range all {
			checkDifference(t, l, to)
		}
	}
}

// changeBoth changes l by one, and then by other.
func changeBoth(l, one, other []api.Validator) ([]api.Validator, api.Errno) {
	so, err := vals.Change(l, one)
	if err != api.OK {
		return nil, err
	}
	return vals.Change(so, other)
}

// checkSplit changes l by one part of the changes and then by the rest, in both orders, and by all of them at once: no result differs from another one.
func checkSplit(t *testing.T, l, changes []api.Validator, part func(at int) bool) {
	t.Helper()
	var one, other []api.Validator
	for at, v := range changes {
		if part(at) {
			one = append(one, v)
		} else {
			other = append(other, v)
		}
	}
	whole, err := vals.Change(l, changes)
	for _, c := range [2][2][]api.Validator{{one, other}, {other, one}} {
		got, fault := changeBoth(l, c[0], c[1])
		// On the way there may be none, or more than 64, though not in the end.
		if fault == api.ErrShort || fault == api.ErrFull {
			continue
		}
		if !slices.Equal(got, whole) || fault != err {
			t.Errorf("%v, by %v and %v: %v, %v, not %v, %v", l, c[0], c[1], got, fault, whole, err)
		}
	}
}

func TestChangesOfDifferentKeysHaveNoOrder(t *testing.T) {
	for _, l := range choices(4, 1, 2)[1:] {
		for _, c := range choices(4, 0, 1, 3) {
			if _, err := expect(l, c); err != api.OK {
				continue
			}
			for parts := range 1 << len(c) {
				checkSplit(t, l, c, func(at int) bool { return parts>>at&1 == 1 })
			}
		}
	}
	for _, l := range [][]api.Validator{row(0, 40, 1), row(30, 64, 5), sample(50, 7)} {
		for seed := range uint64(300) {
			c := difference(l, sample(30, seed))
			checkSplit(t, l, c, func(at int) bool { return mix(seed<<10+uint64(at))%2 == 0 })
			c = difference(l, row(int(seed%100), 1+int(seed%64), 6))
			checkSplit(t, l, c, func(at int) bool { return mix(seed<<10+uint64(at))%2 == 0 })
		}
	}
}

// TestEachChangeAlone makes the changes one by one, in both orders.
func TestEachChangeAlone(t *testing.T) {
	l := row(10, 40, 5)
	changes := join(row(0, 9, 1), of(10, 0, 11, 6, 12, 0), row(45, 3, 0), row(60, 12, 2))
	want, fault := expect(l, changes)
	if fault != api.OK {
		t.Fatal(fault)
	}
	for range 2 {
		got := l
		for _, v := range changes {
			var err api.Errno
			if got, err = vals.Change(got, []api.Validator{v}); err != api.OK {
				t.Fatalf("%v: %v", v, err)
			}
		}
		if !slices.Equal(got, want) {
			t.Errorf("%v, not %v", got, want)
		}
		slices.Reverse(changes)
	}
}
