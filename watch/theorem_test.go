package watch_test

import (
	"slices"
	"testing"

	"bolide/api"
	"bolide/force"
	"bolide/sky"
	"bolide/watch"
)

// enough is whether each kind of case came up often enough.
func enough(t *testing.T, counts ...int) {
	t.Helper()
	for _, n := range counts {
		if n < 100 {
			t.Error("too few cases", counts)
			return
		}
	}
}

// vast is a sky like busy, of which the places are as far apart as can be.
func (d *draw) vast() api.Sky {
	s := busy()
	for i := range s.World.Bodies {
		for j := range s.World.Bodies[i].Track {
			s.World.Bodies[i].Track[j] = at(d.upTo(place), d.upTo(place))
		}
	}
	s.Stations[1].Off = at(d.upTo(1<<20), d.upTo(1<<20))
	return s
}

// glimpse is an offer and an area that it may see.
type glimpse struct {
	s api.Sky
	o api.Offer
	a api.Area
}

// glimpse returns one in a sky that is busy or vast.
func (d *draw) glimpse() glimpse {
	g := glimpse{busy(), d.offer(d.below(9)), d.area(300, 1<<d.below(8))}
	if d.below(3) == 0 {
		g.s, g.a, g.o.Far = d.vast(), d.area(place, 1<<d.below(26)), 1+d.below(1<<(20+d.below(8)))
		g.o.Dir = at(d.upTo(4096), 4096)
	}
	if d.below(2) == 0 {
		g.o = d.toward(g.s, g.o, d.placeIn(g.a))
	}
	return g
}

// truth returns the states of a truth from a tick on, or fewer if one of them is not valid.
func (d *draw) truth(c scene, first api.State, ticks int64) []api.State {
	l := []api.State{first}
	for i := range ticks {
		s := l[i]
		pull, e := force.Pull(c.s.World, c.d, c.tick+i, at(s.X, s.Y))
		if e != api.OK {
			return l
		}
		u, v := s.U+d.in(pull.X), s.V+d.in(pull.Y)
		l = append(l, state(s.X+u, s.Y+v, u, v))
	}
	return l
}

// reading returns one with which a place agrees, and true; false if nothing can be read.
func (d *draw) reading(s api.Sky, o api.Offer, p api.Vec) (api.Reading, bool) {
	if !watch.Field(s, o, p) {
		return nothing(), true
	}
	values, ok := watch.Reads(s, o, p)
	if !ok {
		return api.Reading{}, false
	}
	return value([]int64{values.Lo, values.Hi, d.in(values)}[d.below(3)]), true
}

// readings returns a reading of each offer that was chosen, for a truth, of which some fail.
func (d *draw) readings(c scene, chosen []int, truth []api.State, fails int) ([]api.Reading, bool) {
	var l []api.Reading
	for _, i := range chosen {
		o := c.offers[i]
		if fails > 0 && !o.Sure && d.below(3) == 0 {
			l, fails = append(l, failed()), fails-1
			continue
		}
		now := truth[o.Tick-c.tick]
		r, ok := d.reading(c.s, o, at(now.X, now.Y))
		if !ok {
			return nil, false
		}
		l = append(l, r)
	}
	return l, true
}

func TestP6_6PrintedAhead(t *testing.T) {
	d := draw(66)
	values, nothings, failures, cut := 0, 0, 0, 0
	for range 4000 {
		c := d.scene(12, 4)
		if len(c.set) == 0 {
			continue
		}
		cell, chosen, fails := int(d.below(int64(len(c.set)))), d.choice(len(c.offers)), int(d.below(4))
		b := c.set[cell]
		truth := d.truth(c, state(d.in(b.X), d.in(b.Y), d.in(b.U), d.in(b.V)), 5)
		if len(truth) < 6 {
			continue
		}
		readings, ok := d.readings(c, chosen, truth, fails)
		if !ok {
			continue
		}
		left, e := c.left(chosen, readings)
		worst, f := c.worst(chosen, fails)
		if e != api.OK || f != api.OK || !slices.Contains(left, cell) || len(left) > worst {
			t.Fatal(c, cell, chosen, readings, left, worst, e, f)
		}
		for _, r := range readings {
			switch r.Is {
			case api.ReadFailed:
				failures++
			case api.ReadNothing:
				nothings++
			default:
				values++
			}
		}
		if len(left) < len(c.set) {
			cut++
		}
	}
	enough(t, values, nothings, failures, cut)
}

func TestP6_7PlacesOfAreas(t *testing.T) {
	d := draw(67)
	sure, maybe, never, read, wild := 0, 0, 0, 0, 0
	for range 60000 {
		g := d.glimpse()
		v, e := watch.View(g.s, g.o, g.a)
		if e != api.OK || v != viewOf(g.s, g.o, g.a) {
			t.Fatal(g, v, e, viewOf(g.s, g.o, g.a))
		}
		p := d.placeIn(g.a)
		is := watch.Field(g.s, g.o, p)
		if is != isIn(g.s, g.o, p) || v.Sure && !is || !v.May && is {
			t.Fatal(g, v, p, is)
		}
		if values, ok := watch.Reads(g.s, g.o, p); ok {
			read++
			if values.Lo < v.Values.Lo || values.Hi > v.Values.Hi {
				t.Fatal(g, v, p, values)
			}
		}
		switch {
		case v.Sure:
			sure++
		case v.May:
			maybe++
		default:
			never++
		}
		if v.May && v.Values.Hi == slope {
			wild++
		}
	}
	enough(t, sure, maybe, never, read, wild)
}

func TestP6_8Values(t *testing.T) {
	d := draw(68)
	in, out, none := 0, 0, 0
	for range 60000 {
		g := d.glimpse()
		if d.below(3) == 0 {
			g.o.Err, g.o.Catalog = 0, 1
		}
		p := d.placeIn(g.a)
		says := func(r api.Reading) bool {
			is := watch.Agrees(g.s, g.o, r, p)
			if is != agrees(g.s, g.o, r, p) {
				t.Fatal(g, p, r, is)
			}
			return is
		}
		is := watch.Field(g.s, g.o, p)
		values, ok := watch.Reads(g.s, g.o, p)
		if !says(failed()) || says(nothing()) == is || ok && !is {
			t.Fatal(g, p, is)
		}
		if ok {
			in++
			if !says(value(values.Lo)) || !says(value(values.Hi)) || !says(value(d.in(values))) || says(value(values.Lo-1)) || says(value(values.Hi+1)) {
				t.Fatal(g, p, values)
			}
			continue
		}
		middle := root(squareOf(g.s, g.o, p))
		if left, ahead := turnOf(g.s, g.o, p); g.o.Kind == api.SightAngle {
			middle = floor(million*left, max(1, ahead))
		}
		if says(value(middle)) || says(value(middle+1)) || says(value(d.upTo(million))) || values != of(0, 0) {
			t.Fatal(g, p, values)
		}
		if is {
			none++
		} else {
			out++
		}
	}
	enough(t, in, out, none)
}

func TestP6_9Apart(t *testing.T) {
	d := draw(69)
	apart, mixed, common := 0, 0, 0
	for range 60000 {
		g := d.glimpse()
		b := d.area(300, 1<<d.below(8))
		if d.below(3) == 0 { // not far from the other one
			x, y := g.a.X.Lo+d.upTo(40), g.a.Y.Lo+d.upTo(40)
			b = area(max(-place, x), min(place, x+d.below(20)), max(-place, y), min(place, y+d.below(20)))
		}
		is := watch.Apart(g.s, g.o, g.a, b)
		if is != areApart(g.s, g.o, g.a, b) || is != watch.Apart(g.s, g.o, b, g.a) {
			t.Fatal(g, b, is)
		}
		if watch.Apart(g.s, g.o, g.a, g.a) {
			t.Fatal("from itself", g)
		}
		meets := g.a.X.Lo <= b.X.Hi && b.X.Lo <= g.a.X.Hi && g.a.Y.Lo <= b.Y.Hi && b.Y.Lo <= g.a.Y.Hi
		switch {
		case meets && is:
			t.Fatal("a place in common", g, b)
		case meets:
			common++
		case is:
			apart++
		default:
			mixed++
		}
	}
	enough(t, apart, mixed, common)
}

func TestP6_10More(t *testing.T) {
	d := draw(610)
	cut, lost := 0, 0
	for range 3000 {
		c := d.scene(10, 5)
		chosen, fails := d.choice(len(c.offers)), int(d.below(3))
		n, e := c.worst(chosen, fails)
		if e != api.OK {
			t.Fatal(c, e)
		}
		var more []int
		for i := range c.offers {
			if slices.Contains(chosen, i) || d.below(2) == 0 {
				more = append(more, i)
			}
		}
		if m, e := c.worst(more, fails); m > n || e != api.OK {
			t.Fatal("more offers", c, chosen, more, n, m)
		} else if m < n {
			cut++
		}
		if m, e := c.worst(chosen, fails+1); m < n || e != api.OK {
			t.Fatal("more failures", c, chosen, n, m)
		} else if m > n {
			lost++
		}
		for i := range c.offers {
			if d.below(2) == 0 {
				c.offers[i].Sure = true
			}
		}
		if m, e := c.worst(chosen, fails); m > n || e != api.OK {
			t.Fatal("more sure ones", c, chosen, n, m)
		}
	}
	enough(t, cut, lost)
}

func TestP6_11Best(t *testing.T) {
	d := draw(611)
	gains := 0
	for range 2000 {
		c := d.scene(10, 5)
		m := api.Moon{Body: int(d.below(3)), Glare: min(million, d.below(1<<d.below(21)))}
		budget, fails := int(d.below(10)), int(d.below(4))
		best, n, e := c.best(m, budget, fails)
		if e != api.OK || c.costOf(best) > budget || slices.ContainsFunc(best, func(i int) bool { return !watch.Dark(c.s, c.offers[i], m) }) {
			t.Fatal(c, m, budget, best, e)
		}
		if worst, _ := c.worst(best, fails); worst != n {
			t.Fatal(c, best, n, worst)
		}
		if whole, _ := c.worst(nil, fails); whole != len(c.set) || n > whole {
			t.Fatal(c, best, n, whole)
		}
		if _, richer, _ := c.best(m, budget+int(d.below(10)), fails); richer > n {
			t.Fatal("a greater budget", c, n, richer)
		} else if richer < n {
			gains++
		}
		for range 5 {
			l := d.choice(len(c.offers))
			isDark := !slices.ContainsFunc(l, func(i int) bool { return !darkOf(c.s, c.offers[i], m) })
			if other, _ := c.worst(l, fails); isDark && c.costOf(l) <= budget && other < n {
				t.Fatal("a better choice", c, best, n, l, other)
			}
		}
	}
	if gains < 10 {
		t.Error("too few cases", gains)
	}
}

func TestP6_12Sights(t *testing.T) {
	d := draw(612)
	both, neither := 0, 0
	for range 60000 {
		g := d.glimpse()
		if g.o.Kind != api.SightRange {
			continue
		}
		p := d.placeIn(g.a)
		if !watch.Field(g.s, g.o, p) {
			continue
		}
		m := root(squareOf(g.s, g.o, p)) + d.upTo(g.o.Err+3)
		x := api.Sight{Kind: api.SightRange, Station: g.o.Station, Tick: g.o.Tick, Lo: max(0, m-g.o.Err), Hi: m + g.o.Err}
		is := watch.Agrees(g.s, g.o, value(m), p)
		if is != sky.Agrees(g.s, x, p) {
			t.Fatal(g, p, m, is)
		}
		if is {
			both++
		} else {
			neither++
		}
	}
	enough(t, both, neither)
}
