package watch

import (
	"bolide/api"
	"bolide/span"
)

// eye is what an offer looks with. Places and areas are given as seen from its station.
type eye interface {
	// sees reports whether a place is in the field.
	sees(p api.Vec) bool
	// misses reports whether no place of an area can be in the field.
	misses(a api.Area) bool
	// measure returns what is measured, without any error, of a place in the field: rounded down, and rounded up.
	measure(p api.Vec) api.Span
	// enclose returns a span of all that is measured, without any error, of the places of an area.
	enclose(a api.Area) api.Span
}

// reach is how far an eye sees.
type reach int64

// has reports whether a place is within reach.
func (r reach) has(p api.Vec) bool {
	return square(p) <= int64(r)*int64(r)
}

// radar measures distances.
type radar struct {
	reach reach
}

// telescope measures slopes: how far a place is to the left of dir, in millionths of how far it is ahead. Its field is as wide to each side.
type telescope struct {
	reach reach
	dir   api.Vec
	wide  int64
}

func (r radar) sees(p api.Vec) bool {
	return r.reach.has(p)
}

func (r radar) misses(a api.Area) bool {
	return !r.reach.has(nearest(a))
}

func (r radar) measure(p api.Vec) api.Span {
	distance, _ := span.Roots(api.Span{Lo: square(p), Hi: square(p)})
	return distance
}

func (r radar) enclose(a api.Area) api.Span {
	return span.Hull(r.measure(nearest(a)), hull(a, r.measure))
}

// turn returns how far p is to the left of dir, and how far ahead, both multiplied by the length of dir.
func (t telescope) turn(p api.Vec) (left, ahead int64) {
	return t.dir.X*p.Y - t.dir.Y*p.X, t.dir.X*p.X + t.dir.Y*p.Y
}

// isAhead reports whether p has a slope.
func (t telescope) isAhead(p api.Vec) bool {
	_, ahead := t.turn(p)
	return ahead > 0
}

// isRight reports whether p is beyond the right side of the field.
func (t telescope) isRight(p api.Vec) bool {
	left, ahead := t.turn(p)
	return api.Million*left < -t.wide*ahead
}

// isLeft reports whether p is beyond the left side of the field.
func (t telescope) isLeft(p api.Vec) bool {
	left, ahead := t.turn(p)
	return api.Million*left > t.wide*ahead
}

// faces reports whether p is ahead, and between both sides of the field, however far.
func (t telescope) faces(p api.Vec) bool {
	return t.isAhead(p) && !t.isRight(p) && !t.isLeft(p)
}

func (t telescope) sees(p api.Vec) bool {
	return t.reach.has(p) && t.faces(p)
}

// Each of the three sides on which nothing is seen is convex: what holds for all corners, holds for the whole area.
func (t telescope) misses(a api.Area) bool {
	isBehind := func(p api.Vec) bool { return !t.isAhead(p) }
	return !t.reach.has(nearest(a)) || all(a, isBehind) || all(a, t.isRight) || all(a, t.isLeft)
}

func (t telescope) measure(p api.Vec) api.Span {
	left, ahead := t.turn(p)
	lo, hi, _ := span.MulDiv(api.Million, left, ahead)
	return api.Span{Lo: lo, Hi: hi}
}

func (t telescope) enclose(a api.Area) api.Span {
	if !all(a, t.isAhead) {
		return api.Span{Lo: -api.MaxNum, Hi: api.MaxNum} // the slopes have no bounds
	}
	return hull(a, t.measure)
}

// square returns the squared distance of p from the station.
func square(p api.Vec) int64 {
	return p.X*p.X + p.Y*p.Y
}

// nearest returns the place of an area that is nearest to the station.
func nearest(a api.Area) api.Vec {
	return api.Vec{X: max(a.X.Lo, min(a.X.Hi, 0)), Y: max(a.Y.Lo, min(a.Y.Hi, 0))}
}

// corners returns the four corners of an area.
func corners(a api.Area) [4]api.Vec {
	return [4]api.Vec{
		{X: a.X.Lo, Y: a.Y.Lo},
		{X: a.X.Lo, Y: a.Y.Hi},
		{X: a.X.Hi, Y: a.Y.Lo},
		{X: a.X.Hi, Y: a.Y.Hi},
	}
}

// all reports whether something holds for all four corners of an area.
func all(a api.Area, holds func(api.Vec) bool) bool {
	for _, p := range corners(a) {
		if !holds(p) {
			return false
		}
	}
	return true
}

// hull returns the least span of what is measured of the corners of an area.
func hull(a api.Area, measure func(api.Vec) api.Span) api.Span {
	l := corners(a)
	s := measure(l[0])
	for _, p := range l[1:] {
		s = span.Hull(s, measure(p))
	}
	return s
}
