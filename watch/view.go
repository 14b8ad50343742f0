package watch

import (
	"bolide/api"
	"bolide/span"
)

// seenFrom returns an area as seen from a place.
func seenFrom(p api.Vec, a api.Area) api.Area {
	return api.Area{
		X: api.Span{Lo: a.X.Lo - p.X, Hi: a.X.Hi - p.X},
		Y: api.Span{Lo: a.Y.Lo - p.Y, Hi: a.Y.Hi - p.Y},
	}
}

// isPart reports whether a span of an area is valid.
func isPart(s api.Span) bool {
	return -api.MaxPlace <= s.Lo && s.Lo <= s.Hi && s.Hi <= api.MaxPlace
}

// bounded returns n, or the nearer one of both bounds if it is beyond them.
func bounded(n int64) int64 {
	return max(-api.Slope, min(api.Slope, n))
}

// view returns the view of a valid area.
func (k look) view(a api.Area) api.View {
	a = seenFrom(k.from, a)
	if k.eye.misses(a) {
		return api.View{}
	}
	exact := k.eye.enclose(a)
	return api.View{
		May:    true,
		Sure:   all(a, k.eye.sees),
		Values: api.Span{Lo: bounded(exact.Lo + k.off.Lo), Hi: bounded(exact.Hi + k.off.Hi)},
	}
}

// areMixed reports whether two areas with these views can be mixed up.
func areMixed(a, b api.View) bool {
	_, common := span.Meet(a.Values, b.Values)
	return a.May && b.May && common || !a.Sure && !b.Sure
}

// isLeft reports whether an area with this view may be where a reading comes from.
func isLeft(v api.View, r api.Reading) bool {
	switch r.Is {
	case api.ReadNothing:
		return !v.Sure
	case api.ReadValue:
		return v.May && span.In(v.Values, r.Value)
	}
	return true
}

// View returns the view of an area.
func View(s api.Sky, o api.Offer, a api.Area) (api.View, api.Errno) {
	k, e := lookOf(s, o)
	if e != api.OK {
		return api.View{}, e
	}
	if !isPart(a.X) || !isPart(a.Y) {
		return api.View{}, api.ErrRange
	}
	return k.view(a), api.OK
}

// Apart reports whether an offer tells two areas apart.
func Apart(s api.Sky, o api.Offer, a, b api.Area) bool {
	first, e := View(s, o, a)
	if e != api.OK {
		return false
	}
	second, e := View(s, o, b)
	return e == api.OK && !areMixed(first, second)
}
