package record

import "bolide/api"

// Enter returns a file with one entry more; a decision gets the outcome that Now says.
func Enter(f api.File, x api.Entry) (api.File, api.Errno) {
	if e := Check(f); e != api.OK {
		return api.File{}, e
	}
	if x.Kind == api.EntryDecide {
		o, e := Now(f, x.Known, x.Ahead, x.Exercise)
		if e != api.OK {
			return api.File{}, e
		}
		x.Outcome = o
	}
	next := Copy(f)
	next.Entries = append(next.Entries, x)
	if e := Check(next); e != api.OK {
		return api.File{}, e
	}
	return next, api.OK
}

// Real returns a file without its exercises.
func Real(f api.File) (api.File, api.Errno) {
	if e := Check(f); e != api.OK {
		return api.File{}, e
	}
	whole := Copy(f)
	whole.Entries = realOf(whole.Entries)
	return whole, api.OK
}

// realOf returns the entries of a valid file that are no exercises; withdrawals have the new numbers of what they withdraw, which comes before them, and is no exercise either.
func realOf(l []api.Entry) []api.Entry {
	var kept []api.Entry
	numbers := map[int]int{}
	for i, x := range l {
		if x.Exercise {
			continue
		}
		if x.Kind == api.EntryBack {
			x.Back = numbers[x.Back]
		}
		numbers[i] = len(kept)
		kept = append(kept, x)
	}
	return kept
}
