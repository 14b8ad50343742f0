package force_test

import (
	"cmp"
	"math"
	"math/bits"

	"bolide/api"
	"bolide/force"
)

const (
	place = int64(api.MaxPlace)
	pull  = int64(api.MaxPull)
	least = int64(math.MinInt64)
	most  = int64(math.MaxInt64)
)

func at(x, y int64) api.Vec { return api.Vec{X: x, Y: y} }

func of(lo, hi int64) api.Span { return api.Span{Lo: lo, Hi: hi} }

func area(xlo, xhi, ylo, yhi int64) api.Area { return api.Area{X: of(xlo, xhi), Y: of(ylo, yhi)} }

// alone is the area of one place.
func alone(p api.Vec) api.Area { return area(p.X, p.X, p.Y, p.Y) }

// world is the world W of the chapter's examples.
func world() api.World {
	return api.World{Bodies: []api.Body{
		{Mu: 1000000, Radius: 10, Track: []api.Vec{at(0, 0)}},
		{Mu: 10000, Radius: 2, Track: []api.Vec{at(100, 0), at(0, 100)}},
	}, Home: 1}
}

// drift is the drift D of the chapter's examples.
func drift() api.Drift { return api.Drift{Light: of(0, 100), Heat: of(-10, 10), Gas: 1} }

// single is a world of one body at (x, y).
func single(mu, radius, x, y int64) api.World {
	return api.World{Bodies: []api.Body{{Mu: mu, Radius: radius, Track: []api.Vec{at(x, y)}}}}
}

// draw hands out numbers that look arbitrary, the same ones in each run.
type draw uint64

func (d *draw) next() int64 {
	*d = *d*6364136223846793005 + 1442695040888963407
	return int64(*d ^ *d>>29)
}

// upTo returns a number from -n to n.
func (d *draw) upTo(n int64) int64 { return d.next() % (n + 1) }

// below returns a number from 0 to n - 1.
func (d *draw) below(n int64) int64 { return int64(uint64(d.next()) % uint64(n)) }

// span returns a span of numbers from lo to hi; every third one has one number alone.
func (d *draw) span(lo, hi int64) api.Span {
	a, b := lo+d.below(hi-lo+1), lo+d.below(hi-lo+1)
	if d.below(3) == 0 {
		b = a
	}
	return of(min(a, b), max(a, b))
}

// area returns an area of numbers from -n to n.
func (d *draw) area(n int64) api.Area { return api.Area{X: d.span(-n, n), Y: d.span(-n, n)} }

// part returns a span inside of s.
func (d *draw) part(s api.Span) api.Span { return d.span(s.Lo, s.Hi) }

// mass returns a number below 2 to the power n, of any number of bits.
func (d *draw) mass(n int64) int64 { return d.below(1 << d.below(n+1)) }

// world returns a world of up to four bodies, with masses below 2 to the power bits, and places up to n.
func (d *draw) world(bits, n int64) api.World {
	var w api.World
	for range 1 + d.below(4) {
		b := api.Body{Mu: d.mass(bits), Radius: d.below(2) * d.below(n/2+1)}
		for range 1 + d.below(3) {
			b.Track = append(b.Track, at(d.upTo(n), d.upTo(n)))
		}
		w.Bodies = append(w.Bodies, b)
	}
	w.Home = int(d.below(int64(len(w.Bodies))))
	return w
}

// drift returns a valid drift.
func (d *draw) drift() api.Drift {
	return api.Drift{Light: d.span(0, 1000), Heat: d.span(-1000, 1000), Gas: d.below(1001)}
}

// floor returns a / b, rounded down, for a b above 0.
func floor(a, b int64) int64 {
	n := a / b
	if n*b > a {
		n--
	}
	return n
}

// ceil returns a / b, rounded up, for a b above 0.
func ceil(a, b int64) int64 { return -floor(-a, b) }

// root returns the square root of n, rounded down, for small numbers.
func root(n int64) int64 {
	r := int64(0)
	for (r+1)*(r+1) <= n {
		r++
	}
	return r
}

// rootUp returns the square root of n, rounded up, for small numbers.
func rootUp(n int64) int64 {
	r := root(n)
	if r*r < n {
		r++
	}
	return r
}

// where is the place of a body at a tick.
func where(b api.Body, tick int64) api.Vec { return b.Track[tick%int64(len(b.Track))] }

// leastSquare and mostSquare are the ends of the squares of a span.
func leastSquare(s api.Span) int64 {
	if s.Lo <= 0 && s.Hi >= 0 {
		return 0
	}
	return min(s.Lo*s.Lo, s.Hi*s.Hi)
}

func mostSquare(s api.Span) int64 { return max(s.Lo*s.Lo, s.Hi*s.Hi) }

// pullOn is the pull of a body as the chapter writes it, for small numbers.
func pullOn(b api.Body, tick int64, a api.Area) api.Area {
	c := where(b, tick)
	x, y := of(c.X-a.X.Hi, c.X-a.X.Lo), of(c.Y-a.Y.Hi, c.Y-a.Y.Lo)
	m := max(1, b.Radius*b.Radius)
	q := of(max(m, leastSquare(x)+leastSquare(y)), max(m, mostSquare(x)+mostSquare(y)))
	r := of(root(q.Lo), rootUp(q.Hi))
	return api.Area{X: along(b.Mu, x, q, r), Y: along(b.Mu, y, q, r)}
}

// along is the pull in one direction.
func along(mu int64, x, q, r api.Span) api.Span {
	n, s := of(most, least), of(most, least)
	for _, d := range []int64{q.Lo, q.Hi} {
		n = of(min(n.Lo, floor(mu*x.Lo, d)), max(n.Hi, ceil(mu*x.Hi, d)))
	}
	for _, d := range []int64{r.Lo, r.Hi} {
		s = of(min(s.Lo, floor(n.Lo, d)), max(s.Hi, ceil(n.Hi, d)))
	}
	return of(max(-pull, min(pull, s.Lo)), max(-pull, min(pull, s.Hi)))
}

// thousandths is a product with thousandths, rounded outwards.
func thousandths(a, b api.Span) api.Span {
	l := []int64{a.Lo * b.Lo, a.Lo * b.Hi, a.Hi * b.Lo, a.Hi * b.Hi}
	lo, hi := l[0], l[0]
	for _, n := range l {
		lo, hi = min(lo, n), max(hi, n)
	}
	return of(floor(lo, 1000), ceil(hi, 1000))
}

// minus is a span with the other sign.
func minus(s api.Span) api.Span { return of(-s.Hi, -s.Lo) }

// plus is the sum of areas.
func plus(l ...api.Area) api.Area {
	var a api.Area
	for _, b := range l {
		a = area(a.X.Lo+b.X.Lo, a.X.Hi+b.X.Hi, a.Y.Lo+b.Y.Lo, a.Y.Hi+b.Y.Hi)
	}
	return a
}

// order returns -1, 0 or 1 as n is less than the exact pull k / q^(3/2), equal to it, or greater; for small numbers.
func order(n, k, q int64) int {
	if (n < 0) != (k < 0) {
		return int(sign(n))
	}
	// Now both have one sign, and n n q^3 and k k, with this sign, are ordered as the numbers are.
	high, low := bits.Mul64(uint64(n*n), uint64(q*q*q))
	otherHigh, otherLow := bits.Mul64(uint64(k*sign(k)), uint64(k*sign(k)))
	return int(sign(n)) * cmp.Or(cmp.Compare(high, otherHigh), cmp.Compare(low, otherLow))
}

// sign returns -1 for a number below 0, otherwise 1.
func sign(n int64) int64 {
	if n < 0 {
		return -1
	}
	return 1
}

// isIn reports whether a lies inside b.
func isIn(a, b api.Span) bool { return b.Lo <= a.Lo && a.Hi <= b.Hi }

// areIn reports whether an area lies inside another one.
func areIn(a, b api.Area) bool { return isIn(a.X, b.X) && isIn(a.Y, b.Y) }

// enclosure is a function that encloses what moves a body in an area.
type enclosure struct {
	name string
	f    func(w api.World, d api.Drift, tick int64, a api.Area) (api.Area, api.Errno)
}

// enclosures are all functions of an area; One is asked for the first body, and has no drift.
func enclosures() []enclosure {
	return []enclosure{{"Light", force.Light}, {"Heat", force.Heat}, {"Over", force.Over}, {"One", sun}}
}

// sun is One for the sun, without the drift.
func sun(w api.World, d api.Drift, tick int64, a api.Area) (api.Area, api.Errno) {
	return force.One(w, 0, tick, a)
}
