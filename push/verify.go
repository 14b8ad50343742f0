package push

import (
	"cmp"

	"bolide/api"
	"bolide/force"
	"bolide/meet"
	"bolide/orbit"
	"bolide/sky"
)

// plan is a valid campaign from a tick on. It has a world for each of its ticks, and the flights of its missions.
type plan struct {
	api.Campaign
	drift   api.Drift
	tick    int64
	worlds  []api.World
	flights []flight
}

// planOf returns the plan of arguments that are valid.
func planOf(w api.World, d api.Drift, tick int64, c api.Campaign) plan {
	p := plan{Campaign: c, drift: d, tick: tick, flights: flightsOf(w, c.Missions)}
	for i := range int64(c.Ticks) {
		p.worlds = append(p.worlds, brief(w, tick+i))
	}
	return p
}

// brief returns a valid world in which each body has a track of two places, and is where it should be at a tick and at the next one.
// The lower layers look through all tracks in each call: if they are short, that is soon done, however many cells and failure sets there are.
func brief(w api.World, tick int64) api.World {
	short := api.World{Home: w.Home}
	for i, b := range w.Bodies {
		alone := api.World{Bodies: w.Bodies[i : i+1]}
		places := make([]api.Vec, 2)
		places[tick%2] = sky.At(alone, 0, tick)
		places[(tick+1)%2] = sky.At(alone, 0, tick+1)
		b.Track = places
		short.Bodies = append(short.Bodies, b)
	}
	return short
}

// flying returns the flights of the missions that work with a failure set.
func (p plan) flying(failed []int) []flight {
	var l []flight
	for _, i := range working(p.Campaign, failed) {
		l = append(l, p.flights[i])
	}
	return l
}

// isFar reports whether a flight that arrives at a tick does not reach a cell.
func (p plan) isFar(flying []flight, tick int64, b api.Box) bool {
	for _, f := range flying {
		if f.Arrive == tick && !f.reaches(placesOf(b), p.Fast) {
			return true
		}
	}
	return false
}

// enters reports whether the passage from a valid box to another one goes through a keyhole; without an aim it may go anywhere.
func (p plan) enters(w api.World, tick int64, from, to api.Box) bool {
	a, b, _ := meet.Areas(w, tick, from, to)
	line, ok := meet.Aim(a, b)
	if !ok {
		line = api.Span{Lo: -api.MaxNum, Hi: api.MaxNum}
	}
	return meet.Enters(p.Keys, tick, line)
}

// pass returns the cell with which the next tick goes on after the tick with this number, and why the campaign is not safe for the cell at this tick: 0 if it is.
func (p plan) pass(flying []flight, number int, b api.Box) (next api.Box, why int) {
	w, tick := p.worlds[number], p.tick+int64(number)
	if p.isFar(flying, tick, b) {
		return api.Box{}, api.WhyFar
	}
	from := pushed(flying, p.Body, tick, b)
	next, e := orbit.Step(w, p.drift, tick, from) // an error, too, if the box that was pushed is not valid
	switch {
	case e != api.OK:
		return api.Box{}, api.WhyOver
	case meet.May(w, tick, from, next, p.Miss):
		return api.Box{}, api.WhyHit
	case p.enters(w, tick, from, next):
		return api.Box{}, api.WhyKey
	}
	return next, 0
}

// verdict returns the verdict on a plan for the cells of a valid set.
func (p plan) verdict(set []api.Box) api.Verdict {
	verdict := api.Verdict{Safe: true}
search:
	for failed := range failures(p.Campaign) {
		flying := p.flying(failed)
		for cell, b := range set {
			for number := range p.worlds {
				next, why := p.pass(flying, number, b)
				if why != 0 {
					verdict = api.Verdict{Why: why, Failed: failed, Cell: cell, Tick: p.tick + int64(number)}
					break search
				}
				b = next
			}
		}
	}
	return verdict
}

// checkVerify returns the error of the arguments of Verify.
func checkVerify(w api.World, d api.Drift, tick int64, set []api.Box, c api.Campaign) api.Errno {
	if e := cmp.Or(sky.CheckWorld(w), force.CheckDrift(d), Check(c)); e != api.OK {
		return e
	}
	if tick < 0 || tick > api.MaxTick-int64(c.Ticks) {
		return api.ErrRange
	}
	if e := orbit.CheckSet(set); e != api.OK {
		return e
	}
	return checkCells(set)
}

// checkCells returns ErrFull for more cells than can be looked at.
func checkCells(set []api.Box) api.Errno {
	if len(set) > api.MaxPush {
		return api.ErrFull
	}
	return api.OK
}

// Verify returns whether a campaign is safe for a set from a tick on; if not, the first reason why.
func Verify(w api.World, d api.Drift, tick int64, set []api.Box, c api.Campaign) (api.Verdict, api.Errno) {
	if e := checkVerify(w, d, tick, set, c); e != api.OK {
		return api.Verdict{}, e
	}
	return planOf(w, d, tick, c).verdict(set), api.OK
}
