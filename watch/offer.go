// Package watch plans looks ahead: it says what each look would prove at the worst, whichever orbit of the set is the true one, and finds the plan that cuts the set most.
package watch

import (
	"bolide/api"
	"bolide/sky"
	"bolide/span"
)

// look is a valid offer: from where one looks, with what, and by how much a value that is read may be greater than what is measured without any error.
type look struct {
	from api.Vec
	eye  eye
	off  api.Span
}

// isWithin reports whether n is from lo to hi.
func isWithin(n, lo, hi int64) bool {
	return lo <= n && n <= hi
}

// isPlace reports whether both numbers of a place are from -MaxPlace to MaxPlace.
func isPlace(p api.Vec) bool {
	return isWithin(p.X, -api.MaxPlace, api.MaxPlace) && isWithin(p.Y, -api.MaxPlace, api.MaxPlace)
}

// minus returns p as seen from q.
func minus(p, q api.Vec) api.Vec {
	return api.Vec{X: p.X - q.X, Y: p.Y - q.Y}
}

// lookOf returns the look of an offer, or the error of the sky, or that of the offer.
func lookOf(s api.Sky, o api.Offer) (look, api.Errno) {
	if e := sky.Check(s); e != api.OK {
		return look{}, e
	}
	if o.Kind != api.SightAngle && o.Kind != api.SightRange {
		return look{}, api.ErrKind
	}
	if !isWithin(o.Tick, 0, api.MaxTick) {
		return look{}, api.ErrRange
	}
	from, ok := sky.Where(s, o.Station, o.Tick)
	if !ok {
		return look{}, api.ErrMissing
	}
	if !isWithin(o.Err, 0, api.MaxErr) || !isWithin(o.Far, 1, api.MaxRange) || o.Cost < 0 || o.Cost > api.MaxCost {
		return look{}, api.ErrRange
	}
	if o.Kind == api.SightRange {
		return look{from: from, eye: radar{reach: reach(o.Far)}, off: api.Span{Lo: -o.Err, Hi: o.Err}}, api.OK
	}
	return angleOf(s, o, from)
}

// angleOf returns the look of an offer of an angle, or the error of what belongs to this kind.
func angleOf(s api.Sky, o api.Offer, from api.Vec) (look, api.Errno) {
	bias, ok := biasOf(s.Catalogs, o.Catalog)
	if !ok {
		return look{}, api.ErrMissing
	}
	if !isDir(o.Dir) || !isWithin(o.Wide, 0, api.MaxWide) {
		return look{}, api.ErrRange
	}
	t := telescope{reach: reach(o.Far), dir: o.Dir, wide: o.Wide}
	return look{from: from, eye: t, off: api.Span{Lo: -bias.Hi - o.Err, Hi: -bias.Lo + o.Err}}, api.OK
}

// biasOf returns the bias of a version of the catalog, and true; false if there is none.
func biasOf(l []api.Catalog, version int) (api.Span, bool) {
	for _, c := range l {
		if c.Version == version {
			return c.Bias, true
		}
	}
	return api.Span{}, false
}

// isDir reports whether a direction is valid.
func isDir(d api.Vec) bool {
	return d != api.Vec{} && isWithin(d.X, -api.MaxDir, api.MaxDir) && isWithin(d.Y, -api.MaxDir, api.MaxDir)
}

// has reports whether a place is in the field of a look.
func (k look) has(p api.Vec) bool {
	return k.eye.sees(minus(p, k.from))
}

// values returns all values that can be read of a place in the field: a span, which may be empty.
func (k look) values(p api.Vec) api.Span {
	exact := k.eye.measure(minus(p, k.from))
	return api.Span{Lo: exact.Hi + k.off.Lo, Hi: exact.Lo + k.off.Hi}
}

// agrees reports whether a place agrees with a reading.
func (k look) agrees(r api.Reading, p api.Vec) bool {
	switch r.Is {
	case api.ReadFailed:
		return true
	case api.ReadNothing:
		return !k.has(p)
	case api.ReadValue:
		return k.has(p) && span.In(k.values(p), r.Value)
	}
	return false
}

// CheckOffer returns the error of the sky, then that of an offer.
func CheckOffer(s api.Sky, o api.Offer) api.Errno {
	_, e := lookOf(s, o)
	return e
}

// Field reports whether a place is in the field of an offer.
func Field(s api.Sky, o api.Offer, p api.Vec) bool {
	k, e := lookOf(s, o)
	return e == api.OK && isPlace(p) && k.has(p)
}

// Agrees reports whether a place agrees with a reading of an offer.
func Agrees(s api.Sky, o api.Offer, r api.Reading, p api.Vec) bool {
	k, e := lookOf(s, o)
	return e == api.OK && isPlace(p) && k.agrees(r, p)
}

// Reads returns all values that can be read of a place, and true; false if there are none.
func Reads(s api.Sky, o api.Offer, p api.Vec) (api.Span, bool) {
	k, e := lookOf(s, o)
	if e != api.OK || !isPlace(p) || !k.has(p) {
		return api.Span{}, false
	}
	values := k.values(p)
	if values.Lo > values.Hi {
		return api.Span{}, false
	}
	return values, true
}

// checkMoon returns the error of a moon.
func checkMoon(w api.World, m api.Moon) api.Errno {
	if m.Body < 0 || m.Body >= len(w.Bodies) {
		return api.ErrMissing
	}
	if !isWithin(m.Glare, 0, api.MaxWide) {
		return api.ErrRange
	}
	return api.OK
}

// isDark reports whether a look does not face a moon that is in a place. Radar faces none.
func (k look) isDark(moon api.Vec, glare int64) bool {
	if t, ok := k.eye.(telescope); ok {
		t.wide = glare
		return !t.faces(minus(moon, k.from))
	}
	return true
}

// Dark reports whether an offer is dark.
func Dark(s api.Sky, o api.Offer, m api.Moon) bool {
	k, e := lookOf(s, o)
	return e == api.OK && checkMoon(s.World, m) == api.OK && k.isDark(sky.At(s.World, m.Body, o.Tick), m.Glare)
}
