// Package sky knows where heavy bodies and stations are at each tick, what a sight says of a place, and which sights may be of one small body.
package sky

import "bolide/api"

// track is the places of a body, tick by tick, again and again.
type track []api.Vec

// at returns the place at a tick from 0 on.
func (l track) at(tick int64) api.Vec {
	return l[tick%int64(len(l))]
}

// isWithin reports whether n is from -most to most.
func isWithin(n, most int64) bool {
	return -most <= n && n <= most
}

// areWithin reports whether both numbers of v are from -most to most.
func areWithin(v api.Vec, most int64) bool {
	return isWithin(v.X, most) && isWithin(v.Y, most)
}

// isTick reports whether a tick is from 0 to MaxTick.
func isTick(tick int64) bool {
	return 0 <= tick && tick <= api.MaxTick
}

// checkCount returns ErrShort or ErrFull unless n is from least to most.
func checkCount(n, least, most int) api.Errno {
	switch {
	case n < least:
		return api.ErrShort
	case n > most:
		return api.ErrFull
	}
	return api.OK
}

// CheckWorld returns the first error of a world.
func CheckWorld(w api.World) api.Errno {
	if e := checkCount(len(w.Bodies), 1, api.MaxBodies); e != api.OK {
		return e
	}
	for _, b := range w.Bodies {
		if e := checkBody(b); e != api.OK {
			return e
		}
	}
	if !hasBody(w, w.Home) {
		return api.ErrMissing
	}
	return api.OK
}

// hasBody reports whether a world has a body with this number.
func hasBody(w api.World, body int) bool {
	return 0 <= body && body < len(w.Bodies)
}

// checkBody returns the first error of a body.
func checkBody(b api.Body) api.Errno {
	if b.Mu < 0 || b.Mu > api.MaxMu || b.Radius < 0 || b.Radius > api.MaxRadius {
		return api.ErrRange
	}
	if e := checkCount(len(b.Track), 1, api.MaxTrack); e != api.OK {
		return e
	}
	for _, p := range b.Track {
		if !areWithin(p, api.MaxPlace) {
			return api.ErrRange
		}
	}
	return api.OK
}

// At returns the place of a body at a tick; (0, 0) if there is none.
func At(w api.World, body int, tick int64) api.Vec {
	if CheckWorld(w) != api.OK || !hasBody(w, body) || !isTick(tick) {
		return api.Vec{}
	}
	return track(w.Bodies[body].Track).at(tick)
}

// Check returns the first error of a sky.
func Check(s api.Sky) api.Errno {
	if e := CheckWorld(s.World); e != api.OK {
		return e
	}
	if e := checkStations(s.Stations); e != api.OK {
		return e
	}
	return checkCatalogs(s.Catalogs)
}

// checkStations returns the first error of the stations of a sky.
func checkStations(l []api.Station) api.Errno {
	if len(l) > api.MaxStations {
		return api.ErrFull
	}
	last := 0
	for _, o := range l {
		if o.ID <= last {
			return api.ErrOrder
		}
		if !areWithin(o.Off, api.MaxRadius) {
			return api.ErrRange
		}
		last = o.ID
	}
	return api.OK
}

// checkCatalogs returns the first error of the catalogs of a sky.
func checkCatalogs(l []api.Catalog) api.Errno {
	if len(l) > api.MaxCatalogs {
		return api.ErrFull
	}
	last := 0
	for _, c := range l {
		if c.Version <= last {
			return api.ErrOrder
		}
		if !isWithin(c.Bias.Lo, api.MaxErr) || !isWithin(c.Bias.Hi, api.MaxErr) || c.Bias.Lo > c.Bias.Hi {
			return api.ErrRange
		}
		last = c.Version
	}
	return api.OK
}

// Where returns the place of the station with this ID at a tick, and true; false if there is none.
func Where(s api.Sky, station int, tick int64) (api.Vec, bool) {
	if Check(s) != api.OK || !isTick(tick) {
		return api.Vec{}, false
	}
	return where(s, station, tick)
}

// where is Where in a valid sky, at a valid tick.
func where(s api.Sky, station int, tick int64) (api.Vec, bool) {
	for _, o := range s.Stations {
		if o.ID == station {
			home := track(s.World.Bodies[s.World.Home].Track).at(tick)
			return api.Vec{X: home.X + o.Off.X, Y: home.Y + o.Off.Y}, true
		}
	}
	return api.Vec{}, false
}
