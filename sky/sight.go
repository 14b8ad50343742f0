package sky

import (
	"iter"

	"bolide/api"
)

// word is what a sight says of a place, which is given as seen from the station.
type word interface {
	agrees(p api.Vec) bool
}

// angle says that a place is in a cone.
type angle struct {
	cone cone
}

// ring says that the distance of a place is from lo to hi.
type ring struct {
	lo, hi int64
}

// empty says that a place is not both in a cone and as near as hi.
type empty struct {
	cone cone
	hi   int64
}

// cone is the directions that are turned away from dir by lo to hi, in millionths.
type cone struct {
	dir    api.Vec
	lo, hi int64
}

// turn returns how far p is to the left of the middle of the cone, and how far ahead, both multiplied by the length of dir.
func (c cone) turn(p api.Vec) (left, ahead int64) {
	return c.dir.X*p.Y - c.dir.Y*p.X, c.dir.X*p.X + c.dir.Y*p.Y
}

// isBehind reports whether p is not ahead.
func (c cone) isBehind(p api.Vec) bool {
	_, ahead := c.turn(p)
	return ahead <= 0
}

// isRight reports whether p is to the right of the line on which the cone ends there.
func (c cone) isRight(p api.Vec) bool {
	left, ahead := c.turn(p)
	return api.Million*left < c.lo*ahead
}

// isLeft reports whether p is to the left of the line on which the cone ends there.
func (c cone) isLeft(p api.Vec) bool {
	left, ahead := c.turn(p)
	return api.Million*left > c.hi*ahead
}

// has reports whether p is in the cone.
func (c cone) has(p api.Vec) bool {
	return !c.isBehind(p) && !c.isRight(p) && !c.isLeft(p)
}

// square returns the squared distance of p from the station.
func square(p api.Vec) int64 {
	return p.X*p.X + p.Y*p.Y
}

func (w angle) agrees(p api.Vec) bool {
	return w.cone.has(p)
}

func (w ring) agrees(p api.Vec) bool {
	return w.lo*w.lo <= square(p) && square(p) <= w.hi*w.hi
}

func (w empty) agrees(p api.Vec) bool {
	return !w.blocks(p)
}

// blocks reports whether something at p would have been seen.
func (w empty) blocks(p api.Vec) bool {
	return w.cone.has(p) && square(p) <= w.hi*w.hi
}

// look is a valid sight: when and from where something was seen, and what that says.
type look struct {
	tick int64
	from api.Vec
	says word
}

// agrees reports whether a place agrees with a look.
func (k look) agrees(p api.Vec) bool {
	return areWithin(p, api.MaxPlace) && k.says.agrees(api.Vec{X: p.X - k.from.X, Y: p.Y - k.from.Y})
}

// lookOf returns the look of a sight in a valid sky, or the error of the sight.
func lookOf(s api.Sky, x api.Sight) (look, api.Errno) {
	if x.Kind < api.SightAngle || x.Kind > api.SightEmpty {
		return look{}, api.ErrKind
	}
	if !isTick(x.Tick) {
		return look{}, api.ErrRange
	}
	from, ok := where(s, x.Station, x.Tick)
	if !ok {
		return look{}, api.ErrMissing
	}
	says, e := wordOf(s, x)
	if e != api.OK {
		return look{}, e
	}
	return look{tick: x.Tick, from: from, says: says}, api.OK
}

// wordOf returns what a sight of a valid kind says, or the error of what belongs to its kind.
func wordOf(s api.Sky, x api.Sight) (word, api.Errno) {
	if x.Kind == api.SightRange {
		if x.Lo < 0 || x.Lo > x.Hi || x.Hi > api.MaxRange {
			return nil, api.ErrRange
		}
		return ring{lo: x.Lo, hi: x.Hi}, api.OK
	}
	c, e := coneOf(s, x)
	if e != api.OK {
		return nil, e
	}
	if x.Kind == api.SightAngle {
		return angle{cone: c}, api.OK
	}
	if x.Hi < 1 || x.Hi > api.MaxRange {
		return nil, api.ErrRange
	}
	return empty{cone: c, hi: x.Hi}, api.OK
}

// coneOf returns the cone of an angle or an empty look, or the first error of its catalog, direction and error.
func coneOf(s api.Sky, x api.Sight) (cone, api.Errno) {
	bias, ok := biasOf(s.Catalogs, x.Catalog)
	if !ok {
		return cone{}, api.ErrMissing
	}
	if !areWithin(x.Dir, api.MaxDir) || x.Dir == (api.Vec{}) || x.Err < 0 || x.Err > api.MaxErr {
		return cone{}, api.ErrRange
	}
	return cone{dir: x.Dir, lo: bias.Lo - x.Err, hi: bias.Hi + x.Err}, api.OK
}

// biasOf returns the bias of a version of the catalog, and true; false if there is none.
func biasOf(l []api.Catalog, version int) (api.Span, bool) {
	for _, c := range l {
		if c.Version == version {
			return c.Bias, true
		}
	}
	return api.Span{}, false
}

// checkedLook returns the look of a sight, or the error of the sky, or that of the sight.
func checkedLook(s api.Sky, x api.Sight) (look, api.Errno) {
	if e := Check(s); e != api.OK {
		return look{}, e
	}
	return lookOf(s, x)
}

// CheckSight returns the error of the sky, then that of a sight.
func CheckSight(s api.Sky, x api.Sight) api.Errno {
	_, e := checkedLook(s, x)
	return e
}

// Agrees reports whether a place agrees with a sight.
func Agrees(s api.Sky, x api.Sight, p api.Vec) bool {
	k, e := checkedLook(s, x)
	return e == api.OK && k.agrees(p)
}

// Excludes reports whether a sight excludes an area.
func Excludes(s api.Sky, x api.Sight, a api.Area) bool {
	k, e := checkedLook(s, x)
	return e == api.OK && isPart(a.X) && isPart(a.Y) && excludes(k.says, seenFrom(k.from, a))
}

// isPart reports whether a span of an area is valid.
func isPart(s api.Span) bool {
	return -api.MaxPlace <= s.Lo && s.Lo <= s.Hi && s.Hi <= api.MaxPlace
}

// seenFrom returns an area as seen from a place.
func seenFrom(p api.Vec, a api.Area) api.Area {
	return api.Area{
		X: api.Span{Lo: a.X.Lo - p.X, Hi: a.X.Hi - p.X},
		Y: api.Span{Lo: a.Y.Lo - p.Y, Hi: a.Y.Hi - p.Y},
	}
}

// corners hands out the four corners of an area.
func corners(a api.Area) iter.Seq[api.Vec] {
	return func(yield func(api.Vec) bool) {
		for _, x := range [2]int64{a.X.Lo, a.X.Hi} {
			for _, y := range [2]int64{a.Y.Lo, a.Y.Hi} {
				if !yield(api.Vec{X: x, Y: y}) {
					return
				}
			}
		}
	}
}

// all reports whether something holds for all four corners of an area.
func all(a api.Area, holds func(api.Vec) bool) bool {
	for p := range corners(a) {
		if !holds(p) {
			return false
		}
	}
	return true
}

// nearest returns the place of an area that is nearest to the station.
func nearest(a api.Area) api.Vec {
	return api.Vec{X: max(a.X.Lo, min(a.X.Hi, 0)), Y: max(a.Y.Lo, min(a.Y.Hi, 0))}
}

// excludes reports whether no place of an area, which is given as seen from the station, agrees with a word.
// A cone and a disk are convex, as is each side of a line: what holds for all corners, holds for the whole area.
func excludes(says word, a api.Area) bool {
	switch w := says.(type) {
	case angle:
		return all(a, w.cone.isBehind) || all(a, w.cone.isRight) || all(a, w.cone.isLeft)
	case ring:
		isTooNear := func(p api.Vec) bool { return square(p) < w.lo*w.lo }
		return all(a, isTooNear) || square(nearest(a)) > w.hi*w.hi
	case empty:
		return all(a, w.blocks)
	}
	return false
}
