package span_test

import (
	"testing"

	"bolide/api"
	"bolide/span"
)

func TestP1_4Signs(t *testing.T) {
	for _, c := range []struct {
		a, b       api.Vec
		cross, dot int
	}{
		{at(1, 0), at(0, 1), 1, 0}, {at(0, 1), at(1, 0), -1, 0}, {at(3, -2), at(2, 3), 1, 0}, {at(0, 0), at(5, 5), 0, 0}, {at(-1, 1), at(1, -2), 1, -1},
		{at(1<<62, 1), at(1<<62, 2), 1, 1}, {at(least, least), at(least, least), 0, 1}, {at(least, 0), at(most, 0), 0, -1}, {at(least, least), at(least, most), -1, 1}, {at(least, most), at(most, least), 1, -1}, {at(most, most), at(most, most-1), -1, 1}, {at(least, 1), at(1, 0), -1, -1},
	} {
		if cross, dot := span.Cross(c.a, c.b), span.Dot(c.a, c.b); cross != c.cross || dot != c.dot {
			t.Error(c.a, c.b, cross, dot)
		}
	}
	d := draw(4)
	for i := range 20000 {
		a, b := at(d.next(), d.next()), at(d.next(), d.next())
		if i%2 == 0 { // nearly parallel
			b = at(a.X+d.upTo(1), a.Y+d.upTo(1))
		}
		if span.Cross(a, b) != order(times(a.X, b.Y), times(a.Y, b.X)) || span.Dot(a, b) != order(times(a.X, b.X), minus(times(a.Y, b.Y))) {
			t.Fatal(a, b)
		}
	}
}

func TestP1_4CheckArea(t *testing.T) {
	for _, c := range []struct {
		a api.Area
		e api.Errno
	}{
		{area(0, 0, 0, 0), api.OK}, {area(-far, far, -far, far), api.OK},
		{area(-far-1, 0, 0, 0), api.ErrRange}, {area(0, far+1, 0, 0), api.ErrRange}, {area(0, 0, -far-1, 0), api.ErrRange}, {area(0, 0, 0, far+1), api.ErrRange},
		{area(1, 0, 0, 0), api.ErrOrder}, {area(0, 0, 1, 0), api.ErrOrder}, {area(far+1, far, 0, 0), api.ErrOrder}, {area(0, far+1, 1, 0), api.ErrOrder},
		{area(0, big+1, 1, 0), api.ErrRange}, {area(1, 0, 0, big+1), api.ErrOrder}, {area(least, most, least, most), api.ErrRange},
	} {
		if e := span.CheckArea(c.a); e != c.e {
			t.Error(c.a, e)
		}
	}
}

func TestP1_5Near(t *testing.T) {
	for _, c := range []struct {
		p    api.Vec
		r    int64
		near bool
	}{
		{at(3, 4), 5, true}, {at(3, 4), 4, false}, {at(-3, -4), 5, true}, {at(0, 0), 0, true}, {at(0, 1), 0, false},
		{at(far, 0), far, true}, {at(0, -far), far, true}, {at(far, 1), far, false}, {at(far, far), far, false},
		{at(0, 0), -1, false}, {at(0, 0), far + 1, false}, {at(far+1, 0), far, false}, {at(0, -far-1), far, false}, {at(0, 0), most, false}, {at(least, least), 5, false}, {at(1<<32, 0), 5, false},
	} {
		if near := span.Near(c.p, c.r); near != c.near {
			t.Error(c.p, c.r, near)
		}
	}
}

func TestP1_5Within(t *testing.T) {
	for _, c := range []struct {
		p, q   api.Vec
		r      int64
		within bool
	}{
		{at(-10, 3), at(10, 3), 3, true}, {at(-10, 3), at(10, 3), 2, false}, {at(2, 3), at(10, 3), 3, false}, {at(2, 3), at(10, 3), 4, true},
		{at(3, 4), at(3, 4), 5, true}, {at(3, 4), at(3, 4), 4, false}, {at(-5, -5), at(7, 7), 0, true}, {at(5, 5), at(7, 7), 0, false}, {at(0, 2), at(2, 0), 1, false},
		{at(-far, 1), at(far, 1), 1, true}, {at(-far, 1), at(far, 1), 0, false}, {at(-far, -far), at(far, far), 0, true}, {at(-far, far), at(far, far), far, true}, {at(-far, far), at(far, far), far - 1, false}, {at(far, far), at(far, far), far, false},
		{at(-far, -far), at(far, far-1), 0, false}, {at(-far, -far), at(far, far-1), 1, true}, // it passes at 2^28 of a line that is 2^29.5 long
		{at(0, 0), at(1, 1), -1, false}, {at(0, 0), at(1, 1), far + 1, false}, {at(far+1, 0), at(0, 0), 5, false}, {at(0, 0), at(0, -far-1), 5, false}, {at(least, most), at(most, least), far, false},
	} {
		if span.Within(c.p, c.q, c.r) != c.within || span.Within(c.q, c.p, c.r) != c.within {
			t.Error(c)
		}
	}
	for _, p := range placesOf(area(-4, 4, -4, 4)) {
		for _, q := range placesOf(area(-4, 4, -4, 4)) {
			for r := range int64(7) {
				if span.Within(p, q, r) != comesWithin(p, q, r) {
					t.Fatal(p, q, r)
				}
			}
		}
	}
}

func TestP1_5Miss(t *testing.T) {
	for _, c := range []struct {
		p, q api.Vec
		miss int64
	}{
		{at(2, 3), at(10, 3), 4}, {at(-1, 1), at(1, 1), 1}, {at(0, 0), at(9, 9), 0}, {at(3, 4), at(3, 4), 5}, {at(3, 0), at(0, 4), 3}, {at(1, 1), at(1, 1), 2},
		{at(far, 0), at(far, 0), far}, {at(far, far), at(far, far), 379625063}, {at(-far, -far), at(-far, -far), 379625063},
		{at(far+1, 0), at(0, 0), -1}, {at(0, 0), at(0, -far-1), -1}, {at(least, 0), at(0, 0), -1}, {at(0, 0), at(0, most), -1},
	} {
		if n := span.Miss(c.p, c.q); n != c.miss {
			t.Error(c, n)
		}
	}
}

func TestP1_6HitsAndClear(t *testing.T) {
	for _, c := range []struct {
		a, b       api.Area
		r          int64
		hit, clear bool
	}{
		{area(-1, 1, -1, 1), area(50, 60, 0, 0), 2, true, false}, {area(-1, 1, -2, 2), area(50, 60, 0, 0), 2, false, false}, {area(50, 60, 0, 0), area(-1, 1, -1, 1), 2, true, false},
		{area(-41, -39, 0, 1), area(39, 41, 0, 1), 2, true, false},  // in the middle
		{area(-47, -47, 0, 0), area(33, 34, 0, 0), 2, false, false}, // after 5 parts it is from 3 to 29/8
		{area(-47, -47, 0, 0), area(33, 34, 0, 0), 4, true, false},
		{area(-7, -7, 1, 1), area(1, 2, 1, 1), 1, false, false}, {area(-7, -7, 0, 0), area(1, 2, 0, 0), 1, true, false}, // after 7 parts it is from 0 to 7/8
		{area(5, 6, -9, -8), area(5, 6, 8, 9), 4, false, true}, {area(5, 6, -9, -8), area(5, 6, 8, 9), 5, false, false},
		{area(-2, -1, -2, 2), area(1, 2, -2, 2), 0, false, false},                                                  // the origin lies in the sweep, in neither area
		{area(-9, 9, -9, 9), area(20, 20, 20, 20), 5, false, false},                                                // it lies in an area, far from its edge
		{area(-9, -8, -9, 9), area(8, 9, -9, 9), 3, false, false},                                                  // it lies in the sweep, far from its edge
		{area(3, 3, 4, 4), area(3, 3, 4, 4), 4, false, true}, {area(3, 3, 4, 4), area(3, 3, 4, 4), 5, true, false}, // one place
		{area(0, 0, 5, 5), area(5, 5, 0, 0), 3, false, true}, {area(0, 0, 5, 5), area(5, 5, 0, 0), 4, true, false}, // one segment
		{area(-47, -47, 0, 0), area(33, 33, 0, 0), 2, true, false}, {area(-5, -5, 0, 0), area(11, 11, 0, 0), 0, true, false},
		{area(-far, -far, -far, -far), area(far, far, far, far), 0, true, false}, {area(-far, far, -far, far), area(-far, far, -far, far), far, false, false},
		{area(far, far, far, far), area(far, far, far, far), far, false, true}, {area(-far, -far, -far, far), area(far, far, -far, far), 0, false, false}, {area(-far, far, far, far), area(-far, far, far, far), far - 1, false, true},
	} {
		if hit, clear := span.Hits(c.a, c.b, c.r), span.Clear(c.a, c.b, c.r); hit != c.hit || clear != c.clear {
			t.Error(c, hit, clear)
		}
	}
}

func TestP1_6NotValid(t *testing.T) {
	place, away := area(0, 0, 0, 0), area(9, 9, 9, 9)
	for _, r := range []int64{-1, far + 1, least, most} {
		if span.Hits(place, place, r) || span.Clear(away, away, r) {
			t.Error(r)
		}
	}
	for _, bad := range []api.Area{area(1, 0, 0, 0), area(0, 0, 1, 0), area(far, far+1, 9, 9), area(9, 9, -far-1, 9), area(least, most, least, most)} {
		if span.Hits(bad, place, 5) || span.Hits(place, bad, 5) || span.Clear(bad, away, 0) || span.Clear(away, bad, 0) {
			t.Error(bad)
		}
	}
}

// TestP1_6Exact holds Hits and Clear against what the document writes, computed in another way.
func TestP1_6Exact(t *testing.T) {
	d := draw(6)
	var hits, clears int
	for range 60000 {
		n := 1 + d.next()&15
		a, b, r := drawArea(&d, n), drawArea(&d, n), d.next()&7
		hit, clear := span.Hits(a, b, r), span.Clear(a, b, r)
		if hit != isHit(a, b, r) || clear != isClear(a, b, r) {
			t.Fatal(a, b, r, hit, clear)
		}
		if hit {
			hits++
		}
		if clear {
			clears++
		}
	}
	if hits < 1000 || clears < 1000 {
		t.Error("too few cases", hits, clears)
	}
}

// turned returns a vector turned by a quarter; least has no negative.
func turned(a api.Vec) api.Vec { return at(-a.Y, a.X) }

func TestP1_12Turns(t *testing.T) {
	l := numbers()
	d := draw(12)
	for range 100000 {
		pick := func() int64 { return l[uint64(d.next())%uint64(len(l))] }
		a, b := at(pick(), pick()), at(pick(), pick())
		if span.Cross(a, b) != -span.Cross(b, a) || span.Dot(a, b) != span.Dot(b, a) {
			t.Fatal("order", a, b)
		}
		if a.Y != least && b.Y != least && (span.Cross(turned(a), turned(b)) != span.Cross(a, b) || span.Dot(turned(a), turned(b)) != span.Dot(a, b)) {
			t.Fatal("turned", a, b)
		}
	}
}

func TestP1_13Within(t *testing.T) {
	d := draw(13)
	for range 20000 {
		n := far >> (d.next() & 27)
		p, q := at(d.upTo(n), d.upTo(n)), at(d.upTo(n), d.upTo(n))
		r := max(d.upTo(n), 0)
		within := span.Within(p, q, r)
		if within != span.Within(q, p, r) {
			t.Fatal("order", p, q, r)
		}
		if within && !span.Within(p, q, min(r+1, far)) {
			t.Fatal("greater", p, q, r)
		}
		if (span.Near(p, r) || span.Near(q, r)) && !within {
			t.Fatal("ends", p, q, r)
		}
		miss := span.Miss(p, q)
		if miss != span.Miss(q, p) || miss <= far && !span.Within(p, q, miss) || miss > 0 && span.Within(p, q, min(miss-1, far)) {
			t.Fatal("Miss", p, q, miss)
		}
	}
}

func TestP1_14Sure(t *testing.T) {
	d := draw(14)
	for range 4000 {
		n := 1 + d.next()&3
		a, b, r := drawArea(&d, n), drawArea(&d, n), d.next()&3
		hit, clear := span.Hits(a, b, r), span.Clear(a, b, r)
		if hit && clear {
			t.Fatal("both", a, b, r)
		}
		for _, p := range placesOf(a) {
			for _, q := range placesOf(b) {
				if within := span.Within(p, q, r); hit && !within || clear && within {
					t.Fatal(a, b, r, p, q)
				}
			}
		}
	}
}

func TestP1_14Lesser(t *testing.T) {
	d := draw(141)
	for range 40000 {
		n := far >> (d.next() & 27)
		a, b, r := drawArea(&d, n), drawArea(&d, n), max(d.upTo(n), 0)
		p, q := lesser(&d, a), lesser(&d, b)
		hit, clear := span.Hits(a, b, r), span.Clear(a, b, r)
		if hit && clear || hit && !span.Hits(p, q, r) || clear && !span.Clear(p, q, r) {
			t.Fatal(a, b, r, p, q)
		}
		p.X.Hi, p.Y.Hi, q.X.Hi, q.Y.Hi = p.X.Lo, p.Y.Lo, q.X.Lo, q.Y.Lo
		within := span.Within(at(p.X.Lo, p.Y.Lo), at(q.X.Lo, q.Y.Lo), r)
		if span.Hits(p, q, r) != within || span.Clear(p, q, r) == within {
			t.Fatal("places", p, q, r, within)
		}
		if hit && !within || clear && within {
			t.Fatal("segment", a, b, r, p, q)
		}
	}
}
