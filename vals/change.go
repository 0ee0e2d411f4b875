package vals

import (
	"iter"

	"landfall/api"
)

// Change returns the set that changes make of l.
func Change(l, changes []api.Validator) ([]api.Validator, api.Errno) {
	if err := Check(l); err != api.OK {
		return nil, err
	}
	if err := checkChanges(l, changes); err != api.OK {
		return nil, err
	}
	var changed []api.Validator
	for v := range merge(l, changes) {
		if removes(v) {
			continue
		}
		if len(changed) == api.MaxVals {
			return nil, api.ErrFull
		}
		changed = append(changed, v)
	}
	if len(changed) == 0 {
		return nil, api.ErrShort
	}
	return changed, api.OK
}

// removes returns whether v is a change that removes its key.
func removes(v api.Validator) bool {
	return v.Power == 0
}

// checkChanges returns why these can't be changes of l.
func checkChanges(l, changes []api.Validator) api.Errno {
	r := row{least: 0}
	for _, v := range changes {
		if err := r.next(v); err != api.OK {
			return err
		}
		if removes(v) && !has(l, v.Key) {
			return api.ErrUnknown
		}
	}
	return api.OK
}

// has returns whether l has the key k.
func has(l []api.Validator, k api.Key) bool {
	_, is := Find(l, k)
	return is
}

// merge yields the validators of l and of changes with ascending keys, a removal too; where both have a key, only that of changes.
func merge(l, changes []api.Validator) iter.Seq[api.Validator] {
	return func(yield func(api.Validator) bool) {
		old, changed := l, changes
		for len(old) > 0 || len(changed) > 0 {
			var lesser api.Validator
			switch {
			case len(changed) == 0 || len(old) > 0 && compare(old[0].Key, changed[0].Key) < 0:
				lesser, old = old[0], old[1:]
			case len(old) > 0 && old[0].Key == changed[0].Key:
				lesser, old, changed = changed[0], old[1:], changed[1:]
			default:
				lesser, changed = changed[0], changed[1:]
			}
			if !yield(lesser) {
				return
			}
		}
	}
}
