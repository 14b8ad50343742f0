package span_test

import (
	"testing"

	"bolide/api"
	"bolide/span"
)

// TestP1AllArguments calls each function with numbers of any size: none panics, each ends, and with an error there is no result.
func TestP1AllArguments(t *testing.T) {
	l := numbers()
	d := draw(1)
	pick := func() int64 { return l[uint64(d.next())%uint64(len(l))] }
	for range 100000 {
		a, b, c := of(pick(), pick()), of(pick(), pick()), pick()
		for i, f := range []twoSpans{span.Add, span.Sub, span.Mul, span.Quot, square} {
			if s, e := f(a, b); e != api.OK && s != of(0, 0) || e == api.OK && span.Check(s) != api.OK {
				t.Fatal(i, a, b, s, e)
			}
		}
		if s, e := span.Roots(a); e != api.OK && s != of(0, 0) || e == api.OK && span.Check(s) != api.OK {
			t.Fatal("Roots", a, s, e)
		}
		if lo, hi, e := span.MulDiv(a.Lo, a.Hi, c); e != api.OK && (lo != 0 || hi != 0) || e == api.OK && span.Check(of(lo, hi)) != api.OK {
			t.Fatal("MulDiv", a, c, lo, hi, e)
		}
		p, q := at(a.Lo, a.Hi), at(b.Lo, b.Hi)
		first, second := api.Area{X: a, Y: b}, api.Area{X: b, Y: of(c, c)}
		span.In(a, c)
		span.Inside(a, b)
		span.Hull(a, b)
		span.Meet(a, b)
		span.Split(a)
		span.Root(c)
		span.Cross(p, q)
		span.Dot(p, q)
		span.Near(p, c)
		span.Within(p, q, c)
		span.Miss(p, q)
		span.CheckArea(first)
		if span.Hits(first, second, c) && span.Clear(first, second, c) {
			t.Fatal("hit and clear", first, second, c)
		}
	}
}

// TestDocExample is the row of span in the document's own table of examples.
func TestDocExample(t *testing.T) {
	if s, e := span.Mul(of(-2, 3), of(-5, 4)); s != of(-15, 12) || e != api.OK {
		t.Error(s, e)
	}
	if lo, hi, e := span.MulDiv(7, 3, 2); lo != 10 || hi != 11 || e != api.OK {
		t.Error(lo, hi, e)
	}
}
