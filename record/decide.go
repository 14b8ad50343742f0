package record

import (
	"slices"

	"bolide/api"
	"bolide/meet"
	"bolide/orbit"
)

// upTo returns a file with its first n entries alone.
func upTo(f api.File, n int) api.File {
	f.Entries = f.Entries[:n]
	return f
}

// factsOf returns the numbers of the facts of a decision that follows some entries.
func factsOf(before []api.Entry, exercise bool) []int {
	back := withdrawn(before)
	var facts []int
	for i, x := range before {
		if isFact(x) && !back[i] && (exercise || !x.Exercise) {
			facts = append(facts, i)
		}
	}
	return facts
}

// believed returns the drift and the sights that a decision finds which follows the entries of a file.
func believed(f api.File, exercise bool) (api.Drift, []api.Sight) {
	drift, sights := f.Drift, []api.Sight(nil)
	for _, i := range factsOf(f.Entries, exercise) {
		switch x := f.Entries[i]; x.Kind {
		case api.EntrySight:
			sights = append(sights, x.Sight)
		case api.EntryDrift:
			drift = x.Drift
		}
	}
	return drift, sights
}

// outcomeOf returns the outcome of a decision that follows the entries of a valid file.
func outcomeOf(f api.File, x api.Entry) api.Outcome {
	drift, sights := believed(f, x.Exercise)
	left, e := orbit.Update(f.Sky, drift, f.Tick, f.Set, int(x.Known-f.Tick), sights)
	if e != api.OK { // ErrOver: all else was checked
		return api.Outcome{Out: api.OutLost}
	}
	// With the weight 1 for each box, the chance counts the fates of meet.Find, and the question is asked once for all boxes.
	chance, _ := meet.Odds(f.Sky.World, drift, x.Known, left, slices.Repeat([]int64{1}, len(left)), x.Ahead)
	o := api.Outcome{Left: len(left), Miss: int(chance.All - chance.Most), Hit: int(chance.Least)}
	o.Out = outOf(o)
	return o
}

// outOf returns what a set comes to of which so many boxes are left, miss and hit.
func outOf(o api.Outcome) int {
	switch o.Left {
	case 0:
		return api.OutNone
	case o.Miss:
		return api.OutSafe
	case o.Hit:
		return api.OutSure
	}
	return api.OutOpen
}

// checkDecision returns Check's error, or ErrMissing unless n is the number of a decision.
func checkDecision(f api.File, n int) api.Errno {
	if e := Check(f); e != api.OK {
		return e
	}
	if n < 0 || n >= len(f.Entries) || f.Entries[n].Kind != api.EntryDecide {
		return api.ErrMissing
	}
	return api.OK
}

// Facts returns the numbers of the facts of a decision, ascending.
func Facts(f api.File, n int) ([]int, api.Errno) {
	if e := checkDecision(f, n); e != api.OK {
		return nil, e
	}
	return factsOf(f.Entries[:n], f.Entries[n].Exercise), api.OK
}

// Decide returns the outcome of a decision, whatever the one in its entry says.
func Decide(f api.File, n int) (api.Outcome, api.Errno) {
	if e := checkDecision(f, n); e != api.OK {
		return api.Outcome{}, e
	}
	return outcomeOf(upTo(f, n), f.Entries[n]), api.OK
}

// Now returns the outcome of a decision that would be the next entry.
func Now(f api.File, known int64, ahead int, exercise bool) (api.Outcome, api.Errno) {
	if e := Check(f); e != api.OK {
		return api.Outcome{}, e
	}
	if !isKnown(f, known) || !isAhead(ahead) {
		return api.Outcome{}, api.ErrRange
	}
	if isEarly(f.Entries, known) {
		return api.Outcome{}, api.ErrOrder
	}
	return outcomeOf(f, api.Entry{Known: known, Ahead: ahead, Exercise: exercise}), api.OK
}

// Replay returns the number of the first decision whose outcome is not the one that is found; -1 if there is none.
func Replay(f api.File) (int, api.Errno) {
	if e := Check(f); e != api.OK {
		return 0, e
	}
	for n, x := range f.Entries {
		if x.Kind == api.EntryDecide && x.Outcome != outcomeOf(upTo(f, n), x) {
			return n, api.OK
		}
	}
	return -1, api.OK
}
