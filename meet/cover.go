package meet

import (
	"slices"

	"bolide/api"
	"bolide/orbit"
)

// checkRounds returns ErrRange unless a cover can be made in so many rounds.
func checkRounds(rounds int) api.Errno {
	if rounds < 0 || rounds > api.MaxRounds {
		return api.ErrRange
	}
	return api.OK
}

// cell returns a valid box with its fate.
func (q question) cell(b api.Box) api.Cell {
	return api.Cell{Box: b, Fate: q.fate(b)}
}

// isDivisible reports whether a round splits a cell.
func isDivisible(c api.Cell) bool {
	_, _, ok := orbit.Split(c.Box)
	return ok && c.Fate.Kind == api.FateOpen
}

// cover returns the cover of a valid box after so many rounds, or fewer, if one is not done.
func (q question) cover(b api.Box, rounds int) []api.Cell {
	cells := []api.Cell{q.cell(b)}
	for range rounds {
		next, ok := q.round(cells)
		if !ok {
			break
		}
		cells = next
	}
	return cells
}

// round returns the cells after a round, and true; false if it would make too many cells, or changes none.
func (q question) round(cells []api.Cell) ([]api.Cell, bool) {
	first := slices.IndexFunc(cells, isDivisible)
	if first < 0 || len(cells)+count(cells, isDivisible) > api.MaxCells {
		return nil, false
	}
	next := cells[:first:first] // the first append copies these: the cells after them are still to be read
	for _, c := range cells[first:] {
		if isDivisible(c) {
			low, high, _ := orbit.Split(c.Box)
			next = append(next, q.cell(low), q.cell(high))
		} else {
			next = append(next, c)
		}
	}
	return next, true
}

// count returns how many cells a condition holds for.
func count(cells []api.Cell, is func(api.Cell) bool) int {
	n := 0
	for _, c := range cells {
		if is(c) {
			n++
		}
	}
	return n
}

// Cover returns the cover of a box after so many rounds.
func Cover(w api.World, d api.Drift, tick int64, b api.Box, ticks, rounds int) ([]api.Cell, api.Errno) {
	if e := checkBox(w, d, tick, ticks, b); e != api.OK {
		return nil, e
	}
	if e := checkRounds(rounds); e != api.OK {
		return nil, e
	}
	return ask(w, d, tick, ticks).cover(b, rounds), api.OK
}

// misses reports whether a cell surely misses.
func misses(c api.Cell) bool {
	return c.Fate.Kind == api.FateMiss
}

// Excluded reports whether all cells of the covers of all boxes miss.
func Excluded(w api.World, d api.Drift, tick int64, l []api.Box, ticks, rounds int) (bool, api.Errno) {
	if e := checkSet(w, d, tick, ticks, l); e != api.OK {
		return false, e
	}
	if e := checkRounds(rounds); e != api.OK {
		return false, e
	}
	q := ask(w, d, tick, ticks)
	for _, b := range l {
		if cells := q.cover(b, rounds); count(cells, misses) < len(cells) {
			return false, api.OK
		}
	}
	return true, api.OK
}

// checkWeights returns ErrForm unless there are n weights, then ErrRange unless all of them are valid.
func checkWeights(weights []int64, n int) api.Errno {
	if len(weights) != n {
		return api.ErrForm
	}
	for _, weight := range weights {
		if weight < 0 || weight > api.MaxWeight {
			return api.ErrRange
		}
	}
	return api.OK
}

// Odds returns the chance of boxes with weights.
func Odds(w api.World, d api.Drift, tick int64, l []api.Box, weights []int64, ticks int) (api.Chance, api.Errno) {
	if e := checkSet(w, d, tick, ticks, l); e != api.OK {
		return api.Chance{}, e
	}
	if e := checkWeights(weights, len(l)); e != api.OK {
		return api.Chance{}, e
	}
	q := ask(w, d, tick, ticks)
	var chance api.Chance
	for i, b := range l {
		chance = with(chance, q.fate(b).Kind, weights[i])
	}
	return chance, api.OK
}

// with returns a chance with one more weight, that of a box with a kind of fate.
func with(chance api.Chance, kind int, weight int64) api.Chance {
	chance.All += weight
	if kind != api.FateMiss {
		chance.Most += weight
	}
	if kind == api.FateHit {
		chance.Least += weight
	}
	return chance
}
