package orbit

import (
	"iter"

	"bolide/api"
	"bolide/force"
	"bolide/sky"
)

// maxRefine is how many rounds a set can be refined in.
const maxRefine = 20

// still returns a valid sky in which each body stays where it is at a tick.
// The lower layers look through all tracks in each call: with tracks of one place that is soon done, however many boxes there are.
func still(s api.Sky, tick int64) api.Sky {
	var bodies []api.Body
	for i, b := range s.World.Bodies {
		b.Track = []api.Vec{sky.At(api.World{Bodies: s.World.Bodies[i : i+1]}, 0, tick)}
		bodies = append(bodies, b)
	}
	s.World.Bodies = bodies
	return s
}

// checkSights returns ErrFull for too many sights, then the error of the first one that has one.
func checkSights(s api.Sky, sights []api.Sight) api.Errno {
	if len(sights) > api.MaxSights {
		return api.ErrFull
	}
	for _, x := range sights {
		if e := sky.CheckSight(s, x); e != api.OK {
			return e
		}
	}
	return api.OK
}

// checkFilter returns the error of the arguments of Filter.
func checkFilter(s api.Sky, tick int64, l []api.Box, sights []api.Sight) api.Errno {
	if e := sky.Check(s); e != api.OK {
		return e
	}
	if tick < 0 || tick > api.MaxTick {
		return api.ErrRange
	}
	if e := CheckSet(l); e != api.OK {
		return e
	}
	return checkSights(s, sights)
}

// sightsAt returns the sights that have this tick.
func sightsAt(sights []api.Sight, tick int64) []api.Sight {
	var now []api.Sight
	for _, x := range sights {
		if x.Tick == tick {
			now = append(now, x)
		}
	}
	return now
}

// isExcluded reports whether the places of a box are excluded by some of the sights.
func isExcluded(s api.Sky, b api.Box, sights []api.Sight) bool {
	for _, x := range sights {
		if sky.Excludes(s, x, placesOf(b)) {
			return true
		}
	}
	return false
}

// filtered returns the boxes that are not excluded by some of the sights, in their order.
func filtered(s api.Sky, l []api.Box, sights []api.Sight) []api.Box {
	var left []api.Box
	for _, b := range l {
		if !isExcluded(s, b, sights) {
			left = append(left, b)
		}
	}
	return left
}

// Filter returns a set without the boxes that are excluded by the sights that have this tick.
func Filter(s api.Sky, tick int64, l []api.Box, sights []api.Sight) ([]api.Box, api.Errno) {
	if e := checkFilter(s, tick, l, sights); e != api.OK {
		return nil, e
	}
	return filtered(still(s, tick), l, sightsAt(sights, tick)), api.OK
}

// Refine returns a set whose boxes were split and filtered, round by round.
func Refine(s api.Sky, tick int64, l []api.Box, sights []api.Sight, rounds int) ([]api.Box, api.Errno) {
	if e := checkFilter(s, tick, l, sights); e != api.OK {
		return nil, e
	}
	if rounds < 0 || rounds > maxRefine {
		return nil, api.ErrRange
	}
	now, seen := still(s, tick), sightsAt(sights, tick)
	set := append([]api.Box(nil), l...)
	for range rounds {
		parts := halved(set)
		if len(parts) > api.MaxCells {
			break
		}
		set = filtered(now, parts, seen)
	}
	return set, api.OK
}

// checkTicks returns ErrRange unless a set can go on from a tick for so many ticks, then the error of the set.
func checkTicks(tick int64, ticks int, l []api.Box) api.Errno {
	if ticks < 0 || ticks > api.MaxTicks || tick < 0 || tick > api.MaxTick-int64(ticks) {
		return api.ErrRange
	}
	return CheckSet(l)
}

// updates hands out a set, filtered at a tick, and filtered after each of the ticks that follow; ErrOver, and no more sets, where a step is beyond the limits. All arguments are valid.
func updates(s api.Sky, d api.Drift, tick int64, l []api.Box, ticks int, sights []api.Sight) iter.Seq2[[]api.Box, api.Errno] {
	return func(yield func([]api.Box, api.Errno) bool) {
		now := still(s, tick)
		set := filtered(now, l, sightsAt(sights, tick))
		for at := tick; yield(set, api.OK) && at < tick+int64(ticks); at++ {
			steps, e := stepAll(now.World, d, at, set)
			if e != api.OK {
				yield(nil, e)
				return
			}
			now = still(s, at+1)
			set = filtered(now, steps, sightsAt(sights, at+1))
		}
	}
}

// lastOf returns the last set that is handed out, or the error.
func lastOf(sets iter.Seq2[[]api.Box, api.Errno]) ([]api.Box, api.Errno) {
	var last []api.Box
	for set, e := range sets {
		if e != api.OK {
			return nil, e
		}
		last = set
	}
	return last, api.OK
}

// Propagate returns a set after so many steps.
func Propagate(w api.World, d api.Drift, tick int64, l []api.Box, ticks int) ([]api.Box, api.Errno) {
	if e := checkMoves(w, d); e != api.OK {
		return nil, e
	}
	if e := checkTicks(tick, ticks, l); e != api.OK {
		return nil, e
	}
	return lastOf(updates(api.Sky{World: w}, d, tick, l, ticks, nil))
}

// Update returns a set after so many steps, filtered at each tick, the first and the last one too.
func Update(s api.Sky, d api.Drift, tick int64, l []api.Box, ticks int, sights []api.Sight) ([]api.Box, api.Errno) {
	if e := sky.Check(s); e != api.OK {
		return nil, e
	}
	if e := force.CheckDrift(d); e != api.OK {
		return nil, e
	}
	if e := checkTicks(tick, ticks, l); e != api.OK {
		return nil, e
	}
	if e := checkSights(s, sights); e != api.OK {
		return nil, e
	}
	return lastOf(updates(s, d, tick, l, ticks, sights))
}
