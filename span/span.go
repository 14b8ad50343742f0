// Package span computes with enclosures: spans of whole numbers, whose results are rounded outwards, products that are wider than an int, and distances in the plane, which are compared exactly.
package span

import (
	"math/bits"

	"bolide/api"
)

// inNumbers reports whether n is from -MaxNum to MaxNum.
func inNumbers(n int64) bool {
	return -api.MaxNum <= n && n <= api.MaxNum
}

// Check returns the error of a span: ErrRange if a number of it is beyond MaxNum, ErrOrder if Lo is greater than Hi.
func Check(s api.Span) api.Errno {
	if !inNumbers(s.Lo) || !inNumbers(s.Hi) {
		return api.ErrRange
	}
	if s.Lo > s.Hi {
		return api.ErrOrder
	}
	return api.OK
}

// checkBoth returns the error of a, or else that of b.
func checkBoth(a, b api.Span) api.Errno {
	if e := Check(a); e != api.OK {
		return e
	}
	return Check(b)
}

// In reports whether n is in a span.
func In(s api.Span, n int64) bool {
	return Check(s) == api.OK && s.Lo <= n && n <= s.Hi
}

// Inside reports whether all numbers of a are in b.
func Inside(a, b api.Span) bool {
	return checkBoth(a, b) == api.OK && b.Lo <= a.Lo && a.Hi <= b.Hi
}

// Hull returns the least span that has all numbers of both.
func Hull(a, b api.Span) api.Span {
	if checkBoth(a, b) != api.OK {
		return api.Span{}
	}
	return api.Span{Lo: min(a.Lo, b.Lo), Hi: max(a.Hi, b.Hi)}
}

// Meet returns the span of the numbers that are in both, and whether there are any.
func Meet(a, b api.Span) (api.Span, bool) {
	if checkBoth(a, b) != api.OK {
		return api.Span{}, false
	}
	both := api.Span{Lo: max(a.Lo, b.Lo), Hi: min(a.Hi, b.Hi)}
	if both.Lo > both.Hi {
		return api.Span{}, false
	}
	return both, true
}

// Split returns the lower and the upper half of a span, and whether it has two.
func Split(s api.Span) (a, b api.Span, ok bool) {
	if Check(s) != api.OK || s.Lo == s.Hi {
		return api.Span{}, api.Span{}, false
	}
	middle := (s.Lo + s.Hi) >> 1 // a shift rounds down below 0, too; a division would not
	return api.Span{Lo: s.Lo, Hi: middle}, api.Span{Lo: middle + 1, Hi: s.Hi}, true
}

// operation computes with two numbers; it returns its result rounded down and rounded up.
type operation func(x, y int64) (down, up wide)

// combine returns the span of what an operation gives for the numbers of two spans.
// The operation rises or falls throughout in each number while the other one stays the same, so that its extremes lie at the ends.
func combine(a, b api.Span, op operation) (api.Span, api.Errno) {
	if e := checkBoth(a, b); e != api.OK {
		return api.Span{}, e
	}
	least, most := op(a.Lo, b.Lo)
	for _, ends := range ring(api.Area{X: a, Y: b}) {
		down, up := op(ends.X, ends.Y)
		if down.compare(least) < 0 {
			least = down
		}
		if up.compare(most) > 0 {
			most = up
		}
	}
	lo, above := least.number()
	hi, below := most.number()
	if !above || !below {
		return api.Span{}, api.ErrOver
	}
	return api.Span{Lo: lo, Hi: hi}, api.OK
}

// exactly makes an operation of one whose results are whole numbers.
func exactly(f func(x, y int64) wide) operation {
	return func(x, y int64) (down, up wide) {
		n := f(x, y)
		return n, n
	}
}

// sum returns x + y.
func sum(x, y int64) wide { return widen(x).plus(widen(y)) }

// difference returns x - y.
func difference(x, y int64) wide { return widen(x).plus(widen(y).negative()) }

// quotient returns x / y, rounded down and rounded up; y is not 0, and both are from -MaxNum to MaxNum.
func quotient(x, y int64) (down, up wide) {
	lo, hi, _ := widen(x).over(y)
	return widen(lo), widen(hi)
}

// Add returns the span of all sums of a number of a and one of b.
func Add(a, b api.Span) (api.Span, api.Errno) {
	return combine(a, b, exactly(sum))
}

// Sub returns the span of all differences of a number of a and one of b.
func Sub(a, b api.Span) (api.Span, api.Errno) {
	return combine(a, b, exactly(difference))
}

// Mul returns the span of all products of a number of a and one of b.
func Mul(a, b api.Span) (api.Span, api.Errno) {
	return combine(a, b, exactly(product))
}

// Square returns the span of the squares of the numbers of a.
func Square(a api.Span) (api.Span, api.Errno) {
	if e := Check(a); e != api.OK {
		return api.Span{}, e
	}
	sizes := absolute(a)
	return Mul(sizes, sizes) // no size is below 0, so the extremes are squares, too
}

// absolute returns the span of the absolute values of the numbers of a valid span.
func absolute(a api.Span) api.Span {
	switch {
	case a.Lo >= 0:
		return a
	case a.Hi <= 0:
		return api.Span{Lo: -a.Hi, Hi: -a.Lo}
	}
	return api.Span{Lo: 0, Hi: max(-a.Lo, a.Hi)}
}

// Quot returns the span of all quotients of a number of a by one of b, rounded outwards.
func Quot(a, b api.Span) (api.Span, api.Errno) {
	if e := checkBoth(a, b); e != api.OK {
		return api.Span{}, e
	}
	if In(b, 0) {
		return api.Span{}, api.ErrRange
	}
	return combine(a, b, quotient)
}

// MulDiv returns a b / c, rounded down and rounded up.
func MulDiv(a, b, c int64) (lo, hi int64, e api.Errno) {
	if !inNumbers(a) || !inNumbers(b) || !inNumbers(c) || c == 0 {
		return 0, 0, api.ErrRange
	}
	lo, hi, ok := product(a, b).over(c)
	if !ok {
		return 0, 0, api.ErrOver
	}
	return lo, hi, api.OK
}

// Root returns the greatest whole number whose square is at most n; -1 for an n below 0.
func Root(n int64) int64 {
	if n < 0 {
		return -1
	}
	root := uint64(0)
	// The root has at most half as many bits as n: they are found from the highest one on.
	for bit := uint64(1) << (bits.Len64(uint64(n)) / 2); bit > 0; bit >>= 1 {
		if next := root | bit; next*next <= uint64(n) {
			root = next
		}
	}
	return int64(root)
}

// Roots returns the span of the square roots of the numbers of a, rounded outwards.
func Roots(a api.Span) (api.Span, api.Errno) {
	if e := Check(a); e != api.OK {
		return api.Span{}, e
	}
	if a.Lo < 0 {
		return api.Span{}, api.ErrRange
	}
	up := Root(a.Hi)
	if up*up < a.Hi {
		up++
	}
	return api.Span{Lo: Root(a.Lo), Hi: up}, api.OK
}
