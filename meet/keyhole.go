package meet

import (
	"cmp"
	"slices"

	"bolide/api"
	"bolide/span"
)

// known returns the result of an operation on numbers for which it has no error.
func known(s api.Span, _ api.Errno) api.Span {
	return s
}

// Aim returns the distance, with a sign, at which the straight line from a place of a to one of b goes by the origin, and true; false if there is none.
func Aim(a, b api.Area) (api.Span, bool) {
	if span.CheckArea(a) != api.OK || span.CheckArea(b) != api.OK {
		return api.Span{}, false
	}
	// All numbers are at most MaxFar, 2^28: no product and no square of differences is greater than 2^58, and no operation has an error.
	cross := known(span.Sub(known(span.Mul(a.X, b.Y)), known(span.Mul(a.Y, b.X))))
	length := known(span.Roots(known(span.Add(squareOfWay(a.X, b.X), squareOfWay(a.Y, b.Y)))))
	if length.Lo == 0 {
		return api.Span{}, false
	}
	return known(span.Quot(cross, length)), true
}

// squareOfWay returns the square of the way from a number of a to one of b.
func squareOfWay(a, b api.Span) api.Span {
	return known(span.Square(known(span.Sub(b, a))))
}

// checkNear returns ErrRange unless near is a distance.
func checkNear(near int64) api.Errno {
	if near < 0 || near > api.MaxFar {
		return api.ErrRange
	}
	return api.OK
}

// Returns returns the numbers of the passages of a box that are not clear of near.
func Returns(w api.World, d api.Drift, tick int64, b api.Box, ticks int, near int64) ([]int, api.Errno) {
	if e := checkBox(w, d, tick, ticks, b); e != api.OK {
		return nil, e
	}
	if e := checkNear(near); e != api.OK {
		return nil, e
	}
	var l []int
	for p := range ask(w, d, tick, ticks).passages(b) {
		if !p.isClear(near) {
			l = append(l, p.number)
		}
	}
	return l, api.OK
}

// line returns the part of the target line through which a passage may go: all of it, if nothing is known of that.
func (p passage) line() api.Span {
	if aim, ok := Aim(p.a, p.b); ok && !p.lost {
		return aim
	}
	return api.Span{Lo: -api.MaxNum, Hi: api.MaxNum}
}

// keyhole returns the keyhole of a valid box, and true; false if it has no encounter, or does not come back.
func (q question) keyhole(b api.Box, near int64) (api.Keyhole, bool) {
	var hole api.Keyhole
	met := false
	for p := range q.passages(b) {
		if met && !p.isClear(q.radius()) {
			return hole, true
		}
		if !met && !p.isClear(near) {
			met = true
			hole = api.Keyhole{Tick: q.tick + int64(p.number), Line: p.line()}
			if p.lost {
				return hole, true
			}
		}
	}
	return api.Keyhole{}, false
}

// Keyholes returns the keyholes of a set.
func Keyholes(w api.World, d api.Drift, tick int64, l []api.Box, ticks int, near int64) ([]api.Keyhole, api.Errno) {
	if e := checkSet(w, d, tick, ticks, l); e != api.OK {
		return nil, e
	}
	if e := checkNear(near); e != api.OK {
		return nil, e
	}
	q := ask(w, d, tick, ticks)
	var holes []api.Keyhole
	for _, b := range l {
		if hole, ok := q.keyhole(b, near); ok {
			holes = append(holes, hole)
		}
	}
	return together(holes), api.OK
}

// order compares keyholes by their Tick, then by the Lo of their Line.
func order(a, b api.Keyhole) int {
	return cmp.Or(cmp.Compare(a.Tick, b.Tick), cmp.Compare(a.Line.Lo, b.Line.Lo))
}

// together returns keyholes in their order, those put together that touch each other; it sorts its argument.
func together(l []api.Keyhole) []api.Keyhole {
	slices.SortFunc(l, order)
	var holes []api.Keyhole
keyholes:
	for _, next := range l {
		// No Lo is less than one before: what touches none of these holes now, comes after all of them.
		for i, hole := range holes {
			if hole.Tick == next.Tick && next.Line.Lo <= hole.Line.Hi+1 {
				holes[i].Line = span.Hull(hole.Line, next.Line)
				continue keyholes
			}
		}
		holes = append(holes, next)
	}
	return holes
}

// Enters reports whether a span has a number in common with the Line of some keyhole of a tick.
func Enters(l []api.Keyhole, tick int64, s api.Span) bool {
	for _, hole := range l {
		if hole.Tick == tick && max(hole.Line.Lo, s.Lo) <= min(hole.Line.Hi, s.Hi) {
			return true
		}
	}
	return false
}
