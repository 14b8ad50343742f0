package span

import (
	"math/bits"

	"bolide/api"
)

// wide is a whole number of 128 bits, in two's complement: the product of any two int64 fits.
type wide struct {
	hi int64
	lo uint64
}

// widen returns n as a wide number.
func widen(n int64) wide {
	return wide{hi: n >> 63, lo: uint64(n)}
}

// product returns a b.
func product(a, b int64) wide {
	hi, lo := bits.Mul64(uint64(a), uint64(b))
	// Read without a sign, a number below 0 is too great by 2^64: what that adds to the high word is taken back.
	if a < 0 {
		hi -= uint64(b)
	}
	if b < 0 {
		hi -= uint64(a)
	}
	return wide{hi: int64(hi), lo: lo}
}

// plus returns w + v.
func (w wide) plus(v wide) wide {
	lo, carry := bits.Add64(w.lo, v.lo, 0)
	hi, _ := bits.Add64(uint64(w.hi), uint64(v.hi), carry)
	return wide{hi: int64(hi), lo: lo}
}

// negative returns -w.
func (w wide) negative() wide {
	lo, borrow := bits.Sub64(0, w.lo, 0)
	hi, _ := bits.Sub64(0, uint64(w.hi), borrow)
	return wide{hi: int64(hi), lo: lo}
}

// compare returns -1 if w is less than v, 0 if they are equal, and 1 otherwise.
func (w wide) compare(v wide) int {
	if w == v {
		return 0
	}
	if w.hi < v.hi || w.hi == v.hi && w.lo < v.lo {
		return -1
	}
	return 1
}

// number returns w as an int64, and whether it is from -MaxNum to MaxNum.
func (w wide) number() (int64, bool) {
	n := int64(w.lo)
	return n, widen(n) == w && inNumbers(n)
}

// over returns w / c, rounded down and rounded up, and whether both are from -MaxNum to MaxNum; c is not 0.
func (w wide) over(c int64) (down, up int64, ok bool) {
	if c < 0 {
		w, c = w.negative(), -c
	}
	if w.hi < 0 {
		down, up, ok = w.negative().over(c)
		return -up, -down, ok
	}
	if uint64(w.hi) >= uint64(c) {
		return 0, 0, false // the quotient would not fit a word, and bits.Div64 would panic
	}
	q, rest := bits.Div64(uint64(w.hi), w.lo, uint64(c))
	if q > api.MaxNum || q == api.MaxNum && rest > 0 {
		return 0, 0, false
	}
	down, up = int64(q), int64(q)
	if rest > 0 {
		up++
	}
	return down, up, true
}
