package force

import (
	"iter"

	"bolide/api"
	"bolide/sky"
	"bolide/span"
)

// disc is a heavy body that pulls within its radius as on its edge.
type disc struct {
	api.Body
}

// edge returns the least squared distance at which the disc is taken to be.
func (b disc) edge() int64 {
	return max(1, b.Radius*b.Radius)
}

// puller is a disc in its place at a tick.
type puller struct {
	disc
	place api.Vec
}

// pullerOf returns a body of a valid world in its place at a valid tick.
func pullerOf(w api.World, body int, tick int64) puller {
	alone := api.World{Bodies: w.Bodies[body : body+1]} // sky.At looks through the tracks of a whole world: one of them is enough
	return puller{disc: disc{w.Bodies[body]}, place: sky.At(alone, 0, tick)}
}

// pulls hands out the numbers of all bodies of a valid world, with the enclosures of their pulls on an area.
func pulls(w api.World, tick int64, a api.Area) iter.Seq2[int, api.Area] {
	return func(yield func(int, api.Area) bool) {
		for i := range w.Bodies {
			if !yield(i, pullerOf(w, i, tick).pull(a)) {
				return
			}
		}
	}
}

// known returns the result of an operation that has no error here: valid worlds, drifts and areas keep all its numbers within MaxNum.
func known(s api.Span, _ api.Errno) api.Span {
	return s
}

// only returns the span of one number.
func only(n int64) api.Span {
	return api.Span{Lo: n, Hi: n}
}

// placeAlone returns the area of one place.
func placeAlone(p api.Vec) api.Area {
	return api.Area{X: only(p.X), Y: only(p.Y)}
}

// way returns the vectors from the places of an area to the body.
func (b puller) way(a api.Area) api.Area {
	return api.Area{X: known(span.Sub(only(b.place.X), a.X)), Y: known(span.Sub(only(b.place.Y), a.Y))}
}

// square returns the sum of the squares of both directions.
func square(v api.Area) api.Span {
	return known(span.Add(known(span.Square(v.X)), known(span.Square(v.Y))))
}

// squaredDistance returns the squares of the lengths of a way, none of them less than that of the edge.
func (b puller) squaredDistance(way api.Area) api.Span {
	q := square(way)
	return api.Span{Lo: max(q.Lo, b.edge()), Hi: max(q.Hi, b.edge())}
}

// pull returns the enclosure of the pull of the body on an area.
func (b puller) pull(a api.Area) api.Area {
	way := b.way(a)
	q := b.squaredDistance(way)
	r := known(span.Roots(q))
	return api.Area{X: strength(b.Mu, way.X, q, r), Y: strength(b.Mu, way.Y, q, r)}
}

// depth returns Mu, divided by the distance of the body from a place.
func (b puller) depth(p api.Vec) api.Span {
	r := known(span.Roots(b.squaredDistance(b.way(placeAlone(p)))))
	return known(span.Quot(only(b.Mu), r))
}

// strength returns Mu times x, divided by q and by r, rounded outwards and cut off at MaxPull.
func strength(mu int64, x, q, r api.Span) api.Span {
	all := quotients(mu, x, q)
	n := all[0]
	for _, s := range all[1:] {
		n = span.Hull(n, s)
	}
	s := known(span.Quot(n, r))
	return api.Span{Lo: limited(s.Lo), Hi: limited(s.Hi)}
}

// quotients returns Mu times an end of x, divided by an end of q: bit 0 of the index chooses the end of x, bit 1 that of q.
func quotients(mu int64, x, q api.Span) [4]api.Span {
	xs, qs := [2]int64{x.Lo, x.Hi}, [2]int64{q.Lo, q.Hi}
	var all [4]api.Span
	for i := range all {
		all[i] = quotient(mu, xs[i&1], qs[i>>1])
	}
	return all
}

// quotient returns Mu times x, divided by q, rounded down and up; MaxNum or -MaxNum for both if that is beyond them.
func quotient(mu, x, q int64) api.Span {
	lo, hi, e := span.MulDiv(mu, x, q)
	switch {
	case e == api.OK:
		return api.Span{Lo: lo, Hi: hi}
	case x < 0:
		return only(-api.MaxNum)
	}
	return only(api.MaxNum)
}

// limited returns n, or MaxPull or -MaxPull if it is beyond them.
func limited(n int64) int64 {
	return min(max(n, -api.MaxPull), api.MaxPull)
}
