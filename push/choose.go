package push

import (
	"cmp"
	"slices"

	"bolide/api"
	"bolide/force"
	"bolide/orbit"
	"bolide/sky"
)

// checkOptions returns ErrShort or ErrFull because of the number of options.
func checkOptions(options []api.Campaign) api.Errno {
	switch {
	case len(options) == 0:
		return api.ErrShort
	case len(options) > api.MaxOptions:
		return api.ErrFull
	}
	return api.OK
}

// Choose returns the number of the first option that is safe for a set; -1 if there is none.
func Choose(w api.World, d api.Drift, tick int64, set []api.Box, options []api.Campaign) (int, api.Errno) {
	if e := checkOptions(options); e != api.OK {
		return 0, e
	}
	for i, c := range options {
		verdict, e := Verify(w, d, tick, set, c)
		if e != api.OK {
			return 0, e
		}
		if verdict.Safe {
			return i, api.OK
		}
	}
	return -1, api.OK
}

// checkWorth returns the error of the arguments of Worth.
func checkWorth(w api.World, d api.Drift, tick int64, set []api.Box, options []api.Campaign, parts [][]int) api.Errno {
	if e := checkOptions(options); e != api.OK {
		return e
	}
	for _, c := range options {
		if e := checkVerify(w, d, tick, set, c); e != api.OK {
			return e
		}
	}
	return checkParts(parts, len(set))
}

// checkParts returns, number by number, ErrMissing if it is not that of a cell, ErrOrder if it is not greater than the one before in its part.
func checkParts(parts [][]int, cells int) api.Errno {
	for _, part := range parts {
		for i, cell := range part {
			if cell < 0 || cell >= cells {
				return api.ErrMissing
			}
			if i > 0 && cell <= part[i-1] {
				return api.ErrOrder
			}
		}
	}
	return api.OK
}

// safeCells returns those of the cells for which a plan is safe.
// Cells go their ways apart from each other: a plan is safe for a part of a set if it is safe for each of its cells alone.
func (p plan) safeCells(set []api.Box, cells []int) map[int]bool {
	safe := map[int]bool{}
	for _, cell := range cells {
		safe[cell] = p.verdict(set[cell : cell+1]).Safe
	}
	return safe
}

// Worth returns for how many cells of the parts together there is an option that is safe, and for how many, counted part by part, if it is known in which part the body is.
func Worth(w api.World, d api.Drift, tick int64, set []api.Box, options []api.Campaign, parts [][]int) (int, int, api.Errno) {
	if e := checkWorth(w, d, tick, set, options, parts); e != api.OK {
		return 0, 0, e
	}
	all := slices.Concat(parts...)
	slices.Sort(all)
	all = slices.Compact(all)
	var safe []map[int]bool
	for _, c := range options {
		safe = append(safe, planOf(w, d, tick, c).safeCells(set, all))
	}
	together, apart := saved(safe, all), 0
	for _, part := range parts {
		apart += saved(safe, part)
	}
	return together, apart, api.OK
}

// saved returns how many cells a part has, if some option is safe for all of them; otherwise 0.
func saved(safe []map[int]bool, part []int) int {
	for _, cells := range safe {
		if !slices.ContainsFunc(part, func(cell int) bool { return !cells[cell] }) {
			return len(part)
		}
	}
	return 0
}

// checkWindows returns the error of the arguments of Windows.
func checkWindows(w api.World, d api.Drift, tick int64, set []api.Box, launch int64, fast int64, ticks int) api.Errno {
	if e := cmp.Or(sky.CheckWorld(w), force.CheckDrift(d)); e != api.OK {
		return e
	}
	if launch < 0 || launch > api.MaxTick || checkFast(fast) != api.OK || ticks < 0 || ticks > api.MaxTicks {
		return api.ErrRange
	}
	if _, e := orbit.Propagate(w, d, tick, set, ticks); e != api.OK {
		return e
	}
	return checkCells(set)
}

// Windows returns the ticks at which a craft reaches each cell of a set that goes on from a tick for so many ticks.
func Windows(w api.World, d api.Drift, tick int64, set []api.Box, launch int64, fast int64, ticks int) ([]int64, api.Errno) {
	if e := checkWindows(w, d, tick, set, launch, fast, ticks); e != api.OK {
		return nil, e
	}
	craft := flightOf(w, api.Mission{Launch: launch})
	last := tick + int64(ticks)
	var open []int64
	for craft.Arrive = tick; craft.Arrive <= last; craft.Arrive++ {
		if craft.Arrive > launch && craft.reachesAll(set, fast) {
			open = append(open, craft.Arrive)
		}
		if craft.Arrive < last {
			set, _ = orbit.Propagate(w, d, craft.Arrive, set, 1) // no error: all ticks together have none
		}
	}
	return open, api.OK
}

// reachesAll reports whether a craft that can fly so fast reaches each cell of a set.
func (f flight) reachesAll(set []api.Box, fast int64) bool {
	return !slices.ContainsFunc(set, func(b api.Box) bool { return !f.reaches(placesOf(b), fast) })
}
