package span_test

import (
	"testing"

	"bolide/api"
	"bolide/span"
)

func TestP1_1Check(t *testing.T) {
	for _, c := range []struct {
		s api.Span
		e api.Errno
	}{
		{of(0, 0), api.OK}, {of(-5, 7), api.OK}, {of(2, 1), api.ErrOrder},
		{of(0, big), api.OK}, {of(0, big+1), api.ErrRange}, {of(-big, 0), api.OK}, {of(-big-1, 0), api.ErrRange},
		{of(big, -big), api.ErrOrder}, {of(big+1, 0), api.ErrRange}, {of(0, -big-1), api.ErrRange},
		{of(least, most), api.ErrRange}, {of(most, least), api.ErrRange}, {of(big+1, big+1), api.ErrRange},
	} {
		if e := span.Check(c.s); e != c.e {
			t.Error(c.s, e)
		}
	}
}

func TestP1_1NotValid(t *testing.T) {
	good := of(1, 3)
	for _, bad := range []api.Span{of(2, 1), of(0, big+1), of(least, most), of(-big-1, -big-1)} {
		if span.In(bad, bad.Lo) || span.Inside(bad, bad) || span.Inside(bad, of(-big, big)) || span.Inside(of(1, 1), bad) {
			t.Error(bad, "is not valid, but has numbers")
		}
		if span.Hull(bad, good) != of(0, 0) || span.Hull(good, bad) != of(0, 0) {
			t.Error(bad, "Hull")
		}
		for _, l := range [][2]api.Span{{bad, good}, {good, bad}, {bad, bad}} {
			if m, ok := span.Meet(l[0], l[1]); ok || m != of(0, 0) {
				t.Error(bad, "Meet", m, ok)
			}
		}
		if a, b, ok := span.Split(bad); ok || a != of(0, 0) || b != of(0, 0) {
			t.Error(bad, "Split", a, b, ok)
		}
	}
}

func TestP1_1ErrorOfAThenOfB(t *testing.T) {
	disorder, beyond := of(2, 1), of(0, big+1)
	for i, f := range []twoSpans{span.Add, span.Sub, span.Mul, span.Quot} {
		for _, c := range []struct {
			a, b api.Span
			e    api.Errno
		}{{disorder, beyond, api.ErrOrder}, {beyond, disorder, api.ErrRange}, {disorder, of(0, 0), api.ErrOrder}, {of(1, 1), disorder, api.ErrOrder}, {of(1, 1), beyond, api.ErrRange}, {disorder, of(1, 1), api.ErrOrder}} {
			if s, e := f(c.a, c.b); e != c.e || s != of(0, 0) {
				t.Error(i, c.a, c.b, s, e)
			}
		}
	}
	for _, f := range []func(api.Span) (api.Span, api.Errno){span.Square, span.Roots} {
		if s, e := f(of(-1, -2)); e != api.ErrOrder || s != of(0, 0) {
			t.Error(s, e)
		}
		if s, e := f(of(-big-1, 0)); e != api.ErrRange || s != of(0, 0) {
			t.Error(s, e)
		}
	}
}

func TestP1_1Sets(t *testing.T) {
	for n := int64(-1); n <= 5; n++ {
		if span.In(of(1, 3), n) != (n >= 1 && n <= 3) {
			t.Error("In", n)
		}
	}
	if span.In(of(-big, big), big+1) || span.In(of(-big, big), least) || !span.In(of(-big, big), -big) {
		t.Error("In at the limits")
	}
	if !span.Inside(of(2, 3), of(1, 3)) || !span.Inside(of(1, 3), of(1, 3)) || span.Inside(of(0, 2), of(1, 3)) || span.Inside(of(2, 4), of(1, 3)) || span.Inside(of(5, 6), of(1, 3)) {
		t.Error("Inside")
	}
	if span.Hull(of(1, 2), of(5, 7)) != of(1, 7) || span.Hull(of(1, 9), of(5, 7)) != of(1, 9) || span.Hull(of(-big, -big), of(big, big)) != of(-big, big) {
		t.Error("Hull")
	}
	if m, ok := span.Meet(of(1, 4), of(3, 9)); m != of(3, 4) || !ok {
		t.Error("Meet", m, ok)
	}
	if m, ok := span.Meet(of(1, 3), of(3, 9)); m != of(3, 3) || !ok {
		t.Error("Meet in one number", m, ok)
	}
	if m, ok := span.Meet(of(1, 2), of(3, 4)); m != of(0, 0) || ok {
		t.Error("Meet of spans that are apart", m, ok)
	}
}

func TestP1_1Split(t *testing.T) {
	for _, c := range []struct {
		s, a, b api.Span
		ok      bool
	}{
		{of(-3, 2), of(-3, -1), of(0, 2), true}, {of(5, 5), of(0, 0), of(0, 0), false},
		{of(-2, -1), of(-2, -2), of(-1, -1), true}, {of(-4, -1), of(-4, -3), of(-2, -1), true}, {of(0, 2), of(0, 1), of(2, 2), true},
		{of(-big, big), of(-big, 0), of(1, big), true}, {of(big-1, big), of(big-1, big-1), of(big, big), true}, {of(-big, 1-big), of(-big, -big), of(1-big, 1-big), true},
	} {
		if a, b, ok := span.Split(c.s); a != c.a || b != c.b || ok != c.ok {
			t.Error(c.s, a, b, ok)
		}
	}
}

func TestP1_2Operations(t *testing.T) {
	for i, c := range []struct {
		f          twoSpans
		a, b, want api.Span
		e          api.Errno
	}{
		{span.Add, of(-1, 2), of(3, 4), of(2, 6), api.OK},
		{span.Add, of(big-1, big-1), of(1, 1), of(big, big), api.OK},
		{span.Add, of(0, big), of(0, 1), of(0, 0), api.ErrOver},
		{span.Add, of(-big, 0), of(-1, 0), of(0, 0), api.ErrOver},
		{span.Sub, of(-1, 2), of(3, 4), of(-5, -1), api.OK},
		{span.Sub, of(0, 0), of(-big, big), of(-big, big), api.OK},
		{span.Sub, of(0, big), of(-1, 0), of(0, 0), api.ErrOver},
		{span.Sub, of(-big, 0), of(0, 1), of(0, 0), api.ErrOver},
		{span.Mul, of(-1, 2), of(3, 4), of(-4, 8), api.OK},
		{span.Mul, of(-2, 3), of(-5, 4), of(-15, 12), api.OK},
		{span.Mul, of(-3, -2), of(-5, -4), of(8, 15), api.OK},
		{span.Mul, of(1<<40, 1<<40), of(1<<20, 1<<20), of(big, big), api.OK},
		{span.Mul, of(1<<40, 1<<40), of(-1<<20, 1<<20), of(-big, big), api.OK},
		{span.Mul, of(1<<40, 1<<40), of(1<<21, 1<<21), of(0, 0), api.ErrOver},
		{span.Mul, of(1<<40, 1<<40), of(0, 1<<20+1), of(0, 0), api.ErrOver},
		{span.Mul, of(1<<32, 1<<32), of(1<<32, 1<<32), of(0, 0), api.ErrOver},
		{span.Mul, of(1<<32, 1<<32), of(-1<<32, -1<<32), of(0, 0), api.ErrOver},
		{span.Mul, of(big, big), of(-big, big), of(0, 0), api.ErrOver},
		{square, of(-3, 2), of(0, 0), of(0, 9), api.OK},
		{square, of(-2, 3), of(0, 0), of(0, 9), api.OK},
		{square, of(2, 3), of(0, 0), of(4, 9), api.OK},
		{square, of(-3, -2), of(0, 0), of(4, 9), api.OK},
		{square, of(-3, 0), of(0, 0), of(0, 9), api.OK},
		{square, of(-1<<30, 1), of(0, 0), of(0, big), api.OK},
		{square, of(-1<<30-1, 1), of(0, 0), of(0, 0), api.ErrOver},
		{square, of(0, 1<<32), of(0, 0), of(0, 0), api.ErrOver},
	} {
		if s, e := c.f(c.a, c.b); s != c.want || e != c.e {
			t.Error(i, c.a, c.b, s, e)
		}
	}
}

func TestP1_2Quot(t *testing.T) {
	for _, c := range []struct {
		a, b, want api.Span
		e          api.Errno
	}{
		{of(7, 10), of(2, 3), of(2, 5), api.OK}, {of(-7, 10), of(2, 3), of(-4, 5), api.OK}, {of(7, 10), of(-3, -2), of(-5, -2), api.OK},
		{of(-10, -7), of(-3, -2), of(2, 5), api.OK}, {of(0, 1), of(5, 5), of(0, 1), api.OK}, {of(-1, 0), of(5, 5), of(-1, 0), api.OK},
		{of(-big, big), of(1, 1), of(-big, big), api.OK}, {of(-big, big), of(-1, -1), of(-big, big), api.OK}, {of(1, 1), of(big, big), of(0, 1), api.OK},
		{of(1, 1), of(-1, 1), of(0, 0), api.ErrRange}, {of(1, 1), of(0, 1), of(0, 0), api.ErrRange}, {of(1, 1), of(-1, 0), of(0, 0), api.ErrRange}, {of(0, 0), of(0, 0), of(0, 0), api.ErrRange},
	} {
		if s, e := span.Quot(c.a, c.b); s != c.want || e != c.e {
			t.Error(c.a, c.b, s, e)
		}
	}
}

func TestP1_3MulDiv(t *testing.T) {
	for _, c := range []struct {
		a, b, c, lo, hi int64
		e               api.Errno
	}{
		{7, 3, 2, 10, 11, api.OK}, {-7, 3, 2, -11, -10, api.OK}, {7, -3, 2, -11, -10, api.OK}, {7, 3, -2, -11, -10, api.OK}, {-7, 3, -2, 10, 11, api.OK},
		{6, 3, -2, -9, -9, api.OK}, {0, 5, -3, 0, 0, api.OK}, {1, 1, big, 0, 1, api.OK}, {-1, 1, big, -1, 0, api.OK},
		{1 << 59, 1 << 59, 1 << 58, big, big, api.OK}, {big, big, big, big, big, api.OK}, {big, big, -big, -big, -big, api.OK}, {big, big - 1, big, big - 1, big - 1, api.OK},
		{big, 2, 1, 0, 0, api.ErrOver}, {big, 16, 1, 0, 0, api.ErrOver}, {big, big, 1, 0, 0, api.ErrOver}, {-big, big, 1, 0, 0, api.ErrOver}, {big, big, big - 1, 0, 0, api.ErrOver}, {-big, big, big - 1, 0, 0, api.ErrOver},
		{big - 1, 8, 8, big - 1, big - 1, api.OK},
		{1, 1, 0, 0, 0, api.ErrRange}, {big + 1, 1, 1, 0, 0, api.ErrRange}, {1, -big - 1, 1, 0, 0, api.ErrRange}, {1, 1, big + 1, 0, 0, api.ErrRange}, {big, big, 0, 0, 0, api.ErrRange}, {least, least, least, 0, 0, api.ErrRange},
	} {
		if lo, hi, e := span.MulDiv(c.a, c.b, c.c); lo != c.lo || hi != c.hi || e != c.e {
			t.Error(c, lo, hi, e)
		}
	}
}

// TestP1_3JustOver has quotients at MaxNum and right beyond it.
func TestP1_3JustOver(t *testing.T) {
	const x, y = 17 * 241 * 61681, 4562284561 // their product is 2^60 + 1
	const z = 768614336404564651              // three times this is 2^61 + 1
	for i, c := range []struct {
		a, b, c, lo, hi int64
		e               api.Errno
	}{
		{1<<59 + 1, 1<<59 - 1, 1 << 58, big - 1, big, api.OK}, // (2^118 - 1) / 2^58
		{x, y, 1, 0, 0, api.ErrOver},
		{x, y, x, y, y, api.OK},
		{3, z, 2, 0, 0, api.ErrOver}, // 2^60 and a half: only the second result is over
		{3, -z, 2, 0, 0, api.ErrOver},
		{3, z, 3, z, z, api.OK},
	} {
		if lo, hi, e := span.MulDiv(c.a, c.b, c.c); lo != c.lo || hi != c.hi || e != c.e {
			t.Error(i, lo, hi, e)
		}
	}
}

func TestP1_3Root(t *testing.T) {
	for _, c := range [][2]int64{{0, 0}, {1, 1}, {2, 1}, {3, 1}, {4, 2}, {15, 3}, {16, 4}, {-1, -1}, {least, -1}, {most, 3037000499}, {big, 1 << 30}, {big - 1, 1<<30 - 1}, {1<<62 - 1, 1<<31 - 1}, {1 << 62, 1 << 31}} {
		if n := span.Root(c[0]); n != c[1] {
			t.Error(c, n)
		}
	}
	for _, c := range []struct {
		a, want api.Span
		e       api.Errno
	}{
		{of(2, 17), of(1, 5), api.OK}, {of(4, 16), of(2, 4), api.OK}, {of(0, 0), of(0, 0), api.OK}, {of(0, 1), of(0, 1), api.OK}, {of(5, 8), of(2, 3), api.OK},
		{of(big-1, big), of(1<<30-1, 1<<30), api.OK}, {of(big-1, big-1), of(1<<30-1, 1<<30), api.OK},
		{of(-1, 4), of(0, 0), api.ErrRange}, {of(-2, -1), of(0, 0), api.ErrRange}, {of(-1, -2), of(0, 0), api.ErrOrder}, {of(4, 3), of(0, 0), api.ErrOrder}, {of(0, big+1), of(0, 0), api.ErrRange},
	} {
		if s, e := span.Roots(c.a); s != c.want || e != c.e {
			t.Error(c.a, s, e)
		}
	}
}

// TestP1_7Enclosure computes with all numbers of small spans: the results are the least that have them all.
func TestP1_7Enclosure(t *testing.T) {
	l := small(3)
	for _, a := range l {
		for _, b := range l {
			sums, subs, muls := of(most, least), of(most, least), of(most, least)
			quots, squares := of(most, least), of(most, least)
			grow := func(s *api.Span, lo, hi int64) { *s = of(min(s.Lo, lo), max(s.Hi, hi)) }
			for x := a.Lo; x <= a.Hi; x++ {
				grow(&squares, x*x, x*x)
				for y := b.Lo; y <= b.Hi; y++ {
					grow(&sums, x+y, x+y)
					grow(&subs, x-y, x-y)
					grow(&muls, x*y, x*y)
					if y != 0 {
						grow(&quots, floor(x, y), -floor(-x, y))
					}
				}
			}
			for i, f := range []twoSpans{span.Add, span.Sub, span.Mul, square} {
				if s, e := f(a, b); s != []api.Span{sums, subs, muls, squares}[i] || e != api.OK {
					t.Fatal(i, a, b, s, e)
				}
			}
			s, e := span.Quot(a, b)
			if span.In(b, 0) {
				quots = of(0, 0)
			}
			if (e == api.ErrRange) != span.In(b, 0) || s != quots {
				t.Fatal("Quot", a, b, s, e)
			}
		}
	}
}

// TestP1_8Inclusion takes parts of spans: their results are parts of the results.
func TestP1_8Inclusion(t *testing.T) {
	d := draw(8)
	for range 20000 {
		size := int64(1) << (d.upTo(20) + 30)
		outer, other := drawArea(&d, size), drawArea(&d, size)
		inner, inner2 := lesser(&d, outer), lesser(&d, other)
		for i, f := range []twoSpans{span.Add, span.Sub, span.Mul, span.Quot, square} {
			want, e := f(outer.X, other.Y)
			if e != api.OK {
				continue
			}
			if s, e := f(inner.X, inner2.Y); e != api.OK || !span.Inside(s, want) {
				t.Fatal(i, inner.X, inner2.Y, s, e, want)
			}
		}
		if want, e := span.Roots(outer.X); e == api.OK {
			if s, e := span.Roots(inner.X); e != api.OK || !span.Inside(s, want) {
				t.Fatal("Roots", inner.X, s, e, want)
			}
		}
	}
}

func TestP1_9MeetHullSplit(t *testing.T) {
	l := small(4)
	for _, a := range l {
		for _, b := range l {
			m, ok := span.Meet(a, b)
			m2, ok2 := span.Meet(b, a)
			if m != m2 || ok != ok2 || span.Hull(a, b) != span.Hull(b, a) {
				t.Fatal("order", a, b)
			}
			for n := int64(-5); n <= 5; n++ {
				if (ok && span.In(m, n)) != (span.In(a, n) && span.In(b, n)) {
					t.Fatal("Meet", a, b, n)
				}
			}
			if h := span.Hull(a, b); !span.Inside(a, h) || !span.Inside(b, h) || h.Lo != a.Lo && h.Lo != b.Lo || h.Hi != a.Hi && h.Hi != b.Hi {
				t.Fatal("Hull", a, b, h)
			}
		}
		low, high, ok := span.Split(a)
		if ok != (a.Lo < a.Hi) {
			t.Fatal("Split", a, ok)
		}
		for n := int64(-5); ok && n <= 5; n++ {
			if span.In(low, n) && span.In(high, n) || (span.In(low, n) || span.In(high, n)) != span.In(a, n) {
				t.Fatal("Split", a, n)
			}
		}
		if sizes := [2]int64{low.Hi - low.Lo, high.Hi - high.Lo}; ok && sizes[0] != sizes[1] && sizes[0] != sizes[1]+1 {
			t.Fatal("halves", a, low, high)
		}
	}
}

func TestP1_10MulDiv(t *testing.T) {
	d := draw(10)
	over := 0
	for range 50000 {
		a, b, c := d.upTo(big>>(d.next()&31)), d.upTo(big>>(d.next()&31)), d.upTo(big>>(d.next()&31))
		if c == 0 {
			continue
		}
		lo, hi, e := span.MulDiv(a, b, c)
		x, y, z := a, b, c
		if z < 0 {
			x, z = -x, -z
		}
		n := times(x, y)
		if e != api.OK {
			over++
			if inside := order(n, times(z, big)) <= 0 && order(n, times(z, -big)) >= 0; e != api.ErrOver || inside {
				t.Fatal(a, b, c, e)
			}
			continue
		}
		exact := times(z, lo) == n
		if order(times(z, lo), n) > 0 || order(times(z, lo+1), n) <= 0 || exact && hi != lo || !exact && hi != lo+1 {
			t.Fatal(a, b, c, lo, hi)
		}
	}
	if over == 0 {
		t.Error("no result was over")
	}
}

func TestP1_11Roots(t *testing.T) {
	d := draw(11)
	for i := range int64(50000) {
		n := i
		if i > 20000 {
			n = d.next() >> (1 + d.next()&31) & most
		}
		root := span.Root(n)
		if root < 0 || order(times(root, root), wholeOf(n)) > 0 || order(times(root+1, root+1), wholeOf(n)) <= 0 {
			t.Fatal(n, root)
		}
		for _, m := range []int64{root * root, root*root - 1} {
			if k := span.Root(m); m >= 0 && k*k != m && (k*k > m || (k+1)*(k+1) <= m) {
				t.Fatal(m, k)
			}
		}
	}
	for range 20000 {
		a := drawArea(&d, 1<<30).X
		s, _ := span.Square(a)
		r, e := span.Roots(s)
		sizes := of(min(max(a.Lo, -a.Lo), max(a.Hi, -a.Hi)), max(-a.Lo, a.Hi))
		if a.Lo <= 0 && a.Hi >= 0 {
			sizes.Lo = 0
		}
		if e != api.OK || r != sizes { // the roots of squares are whole: nothing is rounded
			t.Fatal(a, s, r, e)
		}
	}
}
