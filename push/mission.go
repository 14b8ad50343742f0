package push

import (
	"cmp"

	"bolide/api"
	"bolide/orbit"
	"bolide/sky"
	"bolide/span"
)

// whole is how many parts a multiplier is counted in.
const whole = 1000

// checkSpan returns ErrOrder if Lo is greater than Hi, ErrRange unless all numbers of a span are from least to most.
func checkSpan(s api.Span, least, most int64) api.Errno {
	switch {
	case s.Lo > s.Hi:
		return api.ErrOrder
	case s.Lo < least || s.Hi > most:
		return api.ErrRange
	}
	return api.OK
}

// checkBody returns the error of the mass of a body.
func checkBody(body api.Span) api.Errno {
	return checkSpan(body, 1, api.MaxBody)
}

// CheckMission returns the first error of a mission.
func CheckMission(m api.Mission) api.Errno {
	if _, ok := deeds()[m.Kind]; !ok {
		return api.ErrKind
	}
	if m.Launch < 0 || m.Launch >= m.Arrive || m.Arrive > api.MaxTick || m.For < 1 || m.For > api.MaxFor {
		return api.ErrRange
	}
	if e := cmp.Or(checkSpan(m.Mass, 1, api.MaxMass), checkSpan(m.Power, 0, api.MaxPower), checkSpan(m.Mult, whole, api.MaxMult)); e != api.OK {
		return e
	}
	if max(m.Dir.X, m.Dir.Y) > api.MaxDir || min(m.Dir.X, m.Dir.Y) < -api.MaxDir || m.Cost < 0 || m.Cost > api.MaxCost {
		return api.ErrRange
	}
	return api.OK
}

// Check returns the first error of a campaign.
func Check(c api.Campaign) api.Errno {
	if len(c.Missions) > api.MaxMissions {
		return api.ErrFull
	}
	for _, m := range c.Missions {
		if e := CheckMission(m); e != api.OK {
			return e
		}
	}
	if e := checkBody(c.Body); e != api.OK {
		return e
	}
	if checkFast(c.Fast) != api.OK || c.Fails < 0 || c.Fails > api.MaxFails || c.Miss < 0 || c.Miss > api.MaxFar || c.Ticks < 1 || c.Ticks > api.MaxTicks {
		return api.ErrRange
	}
	if len(c.Keys) > api.MaxKeys {
		return api.ErrFull
	}
	return api.OK
}

// checkFast returns ErrRange unless a craft can fly so fast.
func checkFast(fast int64) api.Errno {
	if fast < 1 || fast > api.MaxSpeed {
		return api.ErrRange
	}
	return api.OK
}

// flight is a valid mission, with the place of Home from which it is launched.
type flight struct {
	api.Mission
	home api.Vec
}

// flightOf returns the flight of a valid mission in a valid world.
func flightOf(w api.World, m api.Mission) flight {
	return flight{Mission: m, home: sky.At(w, w.Home, m.Launch)}
}

// flightsOf returns the flights of valid missions in a valid world.
func flightsOf(w api.World, l []api.Mission) []flight {
	var flights []flight
	for _, m := range l {
		flights = append(flights, flightOf(w, m))
	}
	return flights
}

// known returns the result of an operation that has no error here: all numbers are within MaxNum; the greatest ones are those of an impact (see flight.hit).
func known(s api.Span, _ api.Errno) api.Span {
	return s
}

// only returns the span of one number.
func only(n int64) api.Span {
	return api.Span{Lo: n, Hi: n}
}

// placesOf returns the places of a box.
func placesOf(b api.Box) api.Area {
	return api.Area{X: b.X, Y: b.Y}
}

// speeds returns the speeds with which a craft flies to an area of places.
func (f flight) speeds(a api.Area) api.Area {
	ticks := only(f.Arrive - f.Launch)
	return api.Area{
		X: known(span.Quot(known(span.Sub(a.X, only(f.home.X))), ticks)),
		Y: known(span.Quot(known(span.Sub(a.Y, only(f.home.Y))), ticks)),
	}
}

// reaches reports whether a craft that can fly so fast reaches an area of places.
func (f flight) reaches(a api.Area, fast int64) bool {
	speeds, limits := f.speeds(a), api.Span{Lo: -fast, Hi: fast}
	return span.Inside(speeds.X, limits) && span.Inside(speeds.Y, limits)
}

// Speeds returns the speeds of a mission that flies to an area.
func Speeds(w api.World, m api.Mission, a api.Area) (api.Area, api.Errno) {
	// An area is one of places if it is that of a valid box.
	if e := cmp.Or(sky.CheckWorld(w), CheckMission(m), orbit.Check(api.Box{X: a.X, Y: a.Y})); e != api.OK {
		return api.Area{}, e
	}
	return flightOf(w, m).speeds(a), api.OK
}

// Reaches reports whether a mission reaches an area if it can fly so fast; false if an argument is not valid.
func Reaches(w api.World, m api.Mission, a api.Area, fast int64) bool {
	_, e := Speeds(w, m, a)
	return cmp.Or(e, checkFast(fast)) == api.OK && flightOf(w, m).reaches(a, fast)
}
