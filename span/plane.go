package span

import (
	"iter"
	"sort"

	"bolide/api"
)

// parts is in how many parts the way from one area to another one is divided to look for a common hit.
const parts = 8

// farthest is greater than the distance from the origin of any place with numbers up to MaxFar.
const farthest = 2 * api.MaxFar

// Cross returns the sign of aX bY - aY bX.
func Cross(a, b api.Vec) int {
	return product(a.X, b.Y).compare(product(a.Y, b.X))
}

// Dot returns the sign of aX bX + aY bY.
func Dot(a, b api.Vec) int {
	// Both products are compared, since their sum may be wider than a wide number.
	return product(a.X, b.X).compare(product(a.Y, b.Y).negative())
}

// CheckArea returns the error of an area: that of its spans, or ErrRange if a number of it is beyond MaxFar.
func CheckArea(a api.Area) api.Errno {
	if e := checkBoth(a.X, a.Y); e != api.OK {
		return e
	}
	for _, c := range ring(a) {
		if !inFar(c) {
			return api.ErrRange
		}
	}
	return api.OK
}

// inFar reports whether both numbers of a place are from -MaxFar to MaxFar.
func inFar(p api.Vec) bool {
	return max(p.X, p.Y) <= api.MaxFar && min(p.X, p.Y) >= -api.MaxFar
}

// inReach reports whether r is from 0 to MaxFar.
func inReach(r int64) bool {
	return 0 <= r && r <= api.MaxFar
}

// ring returns the corners of an area, in their order around it.
func ring(a api.Area) [4]api.Vec {
	return [4]api.Vec{
		{X: a.X.Lo, Y: a.Y.Lo},
		{X: a.X.Hi, Y: a.Y.Lo},
		{X: a.X.Hi, Y: a.Y.Hi},
		{X: a.X.Lo, Y: a.Y.Hi},
	}
}

// corners hands out all corners of several rings.
func corners(rings [2][4]api.Vec) iter.Seq[api.Vec] {
	return func(yield func(api.Vec) bool) {
		for _, r := range rings {
			for _, c := range r {
				if !yield(c) {
					return
				}
			}
		}
	}
}

// sides hands out the segments that together have the whole edge of the sweep of two rings.
// In each direction the same corner of both rings, or the same two, reach out the most: so the edge of the sweep consists of sides of both, and of segments between the same corners of both.
func sides(rings [2][4]api.Vec) iter.Seq2[api.Vec, api.Vec] {
	return func(yield func(p, q api.Vec) bool) {
		for i := range rings[0] {
			next := (i + 1) % len(rings[0])
			if !yield(rings[0][i], rings[0][next]) || !yield(rings[1][i], rings[1][next]) || !yield(rings[0][i], rings[1][i]) {
				return
			}
		}
	}
}

// near reports whether the distance of p from the origin is at most r, for an r from 0 on.
func near(p api.Vec, r int64) bool {
	return product(p.X, p.X).plus(product(p.Y, p.Y)).compare(product(r, r)) <= 0
}

// Near reports whether the distance of a place from the origin is at most r.
func Near(p api.Vec, r int64) bool {
	return inReach(r) && inFar(p) && near(p, r)
}

// within reports whether the segment pq comes within r, for places with numbers up to MaxFar and an r from 0 to farthest.
func within(p, q api.Vec, r int64) bool {
	way := api.Vec{X: q.X - p.X, Y: q.Y - p.Y}
	if Dot(p, way) >= 0 {
		return near(p, r) // it leads away from the origin
	}
	if Dot(q, way) <= 0 {
		return near(q, r) // it leads towards the origin up to its end
	}
	// The distance of its line is the absolute value of cross, divided by the length of the way.
	cross := p.X*q.Y - p.Y*q.X
	square := way.X*way.X + way.Y*way.Y
	return product(cross, cross).compare(product(r*r, square)) <= 0
}

// Within reports whether the segment pq comes within r of the origin.
func Within(p, q api.Vec, r int64) bool {
	return inReach(r) && inFar(p) && inFar(q) && within(p, q, r)
}

// Miss returns the least whole number r with which the segment pq comes within r; -1 if a number is beyond MaxFar.
func Miss(p, q api.Vec) int64 {
	if !inFar(p) || !inFar(q) {
		return -1
	}
	return int64(sort.Search(farthest, func(r int) bool { return within(p, q, int64(r)) }))
}

// canMeet reports whether Hits and Clear have an answer for these areas and r.
func canMeet(a, b api.Area, r int64) bool {
	return CheckArea(a) == api.OK && CheckArea(b) == api.OK && inReach(r)
}

// Hits reports whether each segment from a to b surely comes within r: because all corners do in one of the parts of the way, or because there is one segment alone, and it does.
func Hits(a, b api.Area, r int64) bool {
	if !canMeet(a, b, r) {
		return false
	}
	if isPlace(a) && isPlace(b) && within(ring(a)[0], ring(b)[0], r) {
		return true
	}
	for i := range int64(parts + 1) {
		if allNear(between(a, b, i), parts*r) {
			return true
		}
	}
	return false
}

// isPlace reports whether an area is one place.
func isPlace(a api.Area) bool {
	return a.X.Lo == a.X.Hi && a.Y.Lo == a.Y.Hi
}

// between returns the area after i parts of the way from a to b; its numbers are multiplied by parts, so that they are whole.
func between(a, b api.Area, i int64) api.Area {
	mix := func(a, b api.Span) api.Span {
		return api.Span{Lo: a.Lo*(parts-i) + b.Lo*i, Hi: a.Hi*(parts-i) + b.Hi*i}
	}
	return api.Area{X: mix(a.X, b.X), Y: mix(a.Y, b.Y)}
}

// allNear reports whether all corners of an area are at a distance of at most r from the origin.
func allNear(a api.Area, r int64) bool {
	for _, c := range ring(a) {
		if !near(c, r) {
			return false
		}
	}
	return true
}

// Clear reports whether each point of the sweep of a and b is at a distance greater than r from the origin.
func Clear(a, b api.Area, r int64) bool {
	if !canMeet(a, b, r) {
		return false
	}
	rings := [2][4]api.Vec{ring(a), ring(b)}
	for p, q := range sides(rings) {
		if within(p, q, r) {
			return false
		}
	}
	return outside(rings)
}

// outside reports whether the origin, which is on no side of the sweep of two rings, is outside of it.
// If it is, one of their corners is the rightmost one as seen from there. If it is not, there are corners to the right of each one.
func outside(rings [2][4]api.Vec) bool {
	for c := range corners(rings) {
		if isRightmost(c, rings) {
			return true
		}
	}
	return false
}

// isRightmost reports whether no corner is to the right of c, as seen from the origin.
func isRightmost(c api.Vec, rings [2][4]api.Vec) bool {
	for other := range corners(rings) {
		if Cross(c, other) < 0 {
			return false
		}
	}
	return true
}
