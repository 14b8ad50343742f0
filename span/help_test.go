package span_test

import (
	"math"
	"math/bits"

	"bolide/api"
	"bolide/span"
)

const (
	big   = int64(api.MaxNum)
	far   = int64(api.MaxFar)
	least = int64(math.MinInt64)
	most  = int64(math.MaxInt64)
)

func of(lo, hi int64) api.Span { return api.Span{Lo: lo, Hi: hi} }

func at(x, y int64) api.Vec { return api.Vec{X: x, Y: y} }

func area(xlo, xhi, ylo, yhi int64) api.Area {
	return api.Area{X: of(xlo, xhi), Y: of(ylo, yhi)}
}

// numbers are ordinary ones, and those at and beyond each limit.
func numbers() []int64 {
	return []int64{
		0, 1, -1, 2, 3, -7, 10, 1 << 30, 1<<30 + 1, 1<<31 - 1, 1 << 32, -1 << 40,
		far, far + 1, -far, -far - 1, big - 1, big, big + 1, -big + 1, -big, -big - 1,
		1 << 61, 1 << 62, -1 << 62, most, most - 1, least, least + 1,
	}
}

// draw hands out numbers that look arbitrary, the same ones in each run.
type draw uint64

func (d *draw) next() int64 {
	*d = *d*6364136223846793005 + 1442695040888963407
	return int64(*d ^ *d>>29)
}

// upTo returns a number from -n to n.
func (d *draw) upTo(n int64) int64 { return d.next() % (n + 1) }

// small returns all spans with numbers from -n to n.
func small(n int64) []api.Span {
	var l []api.Span
	for lo := -n; lo <= n; lo++ {
		for hi := lo; hi <= n; hi++ {
			l = append(l, of(lo, hi))
		}
	}
	return l
}

// whole is a number of 128 bits in two's complement, high word first.
type whole [2]uint64

func plus(a, b whole) whole {
	lo, carry := bits.Add64(a[1], b[1], 0)
	hi, _ := bits.Add64(a[0], b[0], carry)
	return whole{hi, lo}
}

func minus(a whole) whole { return plus(whole{^a[0], ^a[1]}, whole{0, 1}) }

func wholeOf(n int64) whole { return whole{uint64(n >> 63), uint64(n)} }

// times multiplies bit by bit.
func times(a, b int64) whole {
	x, sum := wholeOf(a), whole{}
	for i := range 64 {
		if b>>i&1 == 1 && i < 63 {
			sum = plus(sum, x)
		} else if b>>i&1 == 1 {
			sum = plus(sum, minus(x)) // the sign bit counts below 0
		}
		x = plus(x, x)
	}
	return sum
}

// order returns -1, 0 or 1 as a is less than b, equal to it, or greater.
func order(a, b whole) int {
	if a == b {
		return 0
	}
	if int64(a[0]) < int64(b[0]) || a[0] == b[0] && a[1] < b[1] {
		return -1
	}
	return 1
}

// floor returns a / b, rounded down, for small numbers.
func floor(a, b int64) int64 {
	if b < 0 {
		a, b = -a, -b
	}
	return (a - (a%b+b)%b) / b
}

// placesOf returns all places of a small area.
func placesOf(a api.Area) []api.Vec {
	var l []api.Vec
	for x := a.X.Lo; x <= a.X.Hi; x++ {
		for y := a.Y.Lo; y <= a.Y.Hi; y++ {
			l = append(l, at(x, y))
		}
	}
	return l
}

// comesWithin is Within for small numbers, from the nearest point itself: p + (q - p) k / n, with k from 0 to n.
func comesWithin(p, q api.Vec, r int64) bool {
	x, y := q.X-p.X, q.Y-p.Y
	n := x*x + y*y
	if n == 0 {
		return p.X*p.X+p.Y*p.Y <= r*r
	}
	k := min(max(-(p.X*x+p.Y*y), 0), n)
	nx, ny := p.X*n+x*k, p.Y*n+y*k
	return nx*nx+ny*ny <= r*n*r*n
}

// turns returns aX bY - aY bX, for small numbers.
func turns(a, b api.Vec) int64 { return a.X*b.Y - a.Y*b.X }

// holds reports whether the origin lies in a triangle, its edge included.
func holds(a, b, c api.Vec) bool {
	k, l, m := turns(a, b), turns(b, c), turns(c, a)
	full := k != 0 || l != 0 || m != 0 // otherwise all corners are on one line with the origin: their segments tell
	return full && (k >= 0 && l >= 0 && m >= 0 || k <= 0 && l <= 0 && m <= 0)
}

// isClear is Clear for small numbers: no segment between corners comes within r, and no triangle of corners holds the origin.
func isClear(a, b api.Area, r int64) bool {
	var l []api.Vec
	for _, o := range []api.Area{a, b} {
		l = append(l, at(o.X.Lo, o.Y.Lo), at(o.X.Lo, o.Y.Hi), at(o.X.Hi, o.Y.Lo), at(o.X.Hi, o.Y.Hi))
	}
	for i, p := range l {
		for j, q := range l[:i+1] {
			if comesWithin(p, q, r) {
				return false
			}
			for _, s := range l[:j] {
				if holds(p, q, s) {
					return false
				}
			}
		}
	}
	return true
}

// isHit is Hits for small numbers, as it is written.
func isHit(a, b api.Area, r int64) bool {
	for i := int64(0); i <= 8; i++ {
		all := true
		for _, x := range []int64{a.X.Lo*(8-i) + b.X.Lo*i, a.X.Hi*(8-i) + b.X.Hi*i} {
			for _, y := range []int64{a.Y.Lo*(8-i) + b.Y.Lo*i, a.Y.Hi*(8-i) + b.Y.Hi*i} {
				all = all && x*x+y*y <= 64*r*r
			}
		}
		if all {
			return true
		}
	}
	place := a.X.Lo == a.X.Hi && a.Y.Lo == a.Y.Hi && b.X.Lo == b.X.Hi && b.Y.Lo == b.Y.Hi
	return place && comesWithin(at(a.X.Lo, a.Y.Lo), at(b.X.Lo, b.Y.Lo), r)
}

// drawArea returns an area with numbers from -n to n; every fourth one is a place.
func drawArea(d *draw, n int64) api.Area {
	x, y := d.upTo(n), d.upTo(n)
	if d.upTo(3) == 0 {
		return area(x, x, y, y)
	}
	z, w := d.upTo(n), d.upTo(n)
	return area(min(x, z), max(x, z), min(y, w), max(y, w))
}

// lesser returns an area inside of a.
func lesser(d *draw, a api.Area) api.Area {
	part := func(s api.Span) api.Span {
		n := s.Hi - s.Lo
		k, l := s.Lo+(d.upTo(n)+n)%(n+1), s.Lo+(d.upTo(n)+n)%(n+1)
		return of(min(k, l), max(k, l))
	}
	return api.Area{X: part(a.X), Y: part(a.Y)}
}

// twoSpans is a function of two spans.
type twoSpans func(a, b api.Span) (api.Span, api.Errno)

// square is Square with a second span, which it does not use.
func square(a, _ api.Span) (api.Span, api.Errno) { return span.Square(a) }
