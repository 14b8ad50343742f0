package force_test

import (
	"slices"
	"testing"

	"bolide/api"
	"bolide/force"
)

// TestP3_6Exact holds enclosures against the exact pull, Mu d / r^3, at places of the area.
func TestP3_6Exact(t *testing.T) {
	d := draw(36)
	tight := 0
	for range 40000 {
		w, a, tick := d.world(40, 200), d.area(200), d.below(7)
		p := at(d.part(a.X).Lo, d.part(a.Y).Hi)
		for i, b := range w.Bodies {
			r, e := force.One(w, i, tick, a)
			if e != api.OK {
				t.Fatal(e)
			}
			c := where(b, tick)
			x, y := c.X-p.X, c.Y-p.Y
			q := max(1, b.Radius*b.Radius, x*x+y*y)
			for _, axis := range []struct {
				s api.Span
				k int64
			}{{r.X, b.Mu * x}, {r.Y, b.Mu * y}} {
				if order(pull, axis.k, q) < 0 || order(-pull, axis.k, q) > 0 {
					continue
				}
				if order(axis.s.Lo, axis.k, q) > 0 || order(axis.s.Hi, axis.k, q) < 0 {
					t.Fatal(b, a, p, r)
				}
				if axis.s.Hi-axis.s.Lo < 5 && axis.k != 0 {
					tight++
				}
			}
		}
	}
	if tight < 1000 {
		t.Error("too few narrow enclosures", tight)
	}
}

// TestP3_7Inclusion holds enclosures against those of greater areas and drifts.
func TestP3_7Inclusion(t *testing.T) {
	draw := draw(37)
	for range 30000 {
		bits, n := draw.below(51), []int64{5, 100, place}[draw.below(3)]
		w, d, a, tick := draw.world(bits, n), draw.drift(), draw.area(n), draw.below(7)
		for i := range w.Bodies {
			w.Bodies[i].Radius = min(w.Bodies[i].Radius, api.MaxRadius)
		}
		lesser := api.Area{X: draw.part(a.X), Y: draw.part(a.Y)}
		less := api.Drift{Light: draw.part(d.Light), Heat: draw.part(d.Heat), Gas: draw.below(d.Gas + 1)}
		for _, f := range enclosures() {
			r, e := f.f(w, d, tick, a)
			s, g := f.f(w, less, tick, lesser)
			if e != api.OK || g != api.OK || !areIn(s, r) {
				t.Fatal(f.name, w, d, a, r, e, less, lesser, s, g)
			}
		}
		p := at(lesser.X.Lo, lesser.Y.Hi)
		r, _ := force.Over(w, d, tick, a)
		if s, e := force.Pull(w, less, tick, p); e != api.OK || !areIn(s, r) {
			t.Fatal("Pull", p, s, e)
		}
	}
}

// TestP3_8Sum holds Over against its parts.
func TestP3_8Sum(t *testing.T) {
	draw := draw(38)
	for range 20000 {
		w, d, a, tick := draw.world(50, 1000), draw.drift(), draw.area(1000), draw.below(7)
		var parts []api.Area
		for i := range w.Bodies {
			r, _ := force.One(w, i, tick, a)
			parts = append(parts, r)
		}
		if r, e := force.Over(w, api.Drift{}, tick, a); r != plus(parts...) || e != api.OK {
			t.Fatal("without drift", w, a, r, e)
		}
		light, _ := force.Light(w, d, tick, a)
		heat, _ := force.Heat(w, d, tick, a)
		parts = append(parts, light, heat, area(-d.Gas, d.Gas, -d.Gas, d.Gas))
		if r, e := force.Over(w, d, tick, a); r != plus(parts...) || e != api.OK {
			t.Fatal(w, d, a, r, e)
		}
	}
}

// mirror is an area with X to -X.
func mirror(a api.Area) api.Area { return api.Area{X: minus(a.X), Y: a.Y} }

// turn is an area that is turned by a quarter.
func turn(a api.Area) api.Area { return api.Area{X: minus(a.Y), Y: a.X} }

// moved is a world in which each place is moved.
func moved(w api.World, to func(api.Vec) api.Vec) api.World {
	var l []api.Body
	for _, b := range w.Bodies {
		b.Track = slices.Clone(b.Track)
		for i, p := range b.Track {
			b.Track[i] = to(p)
		}
		l = append(l, b)
	}
	return api.World{Bodies: l, Home: w.Home}
}

func TestP3_9Mirror(t *testing.T) {
	draw := draw(39)
	for range 20000 {
		w, d, a, tick := draw.world(50, 1000), draw.drift(), draw.area(1000), draw.below(7)
		mirrored := moved(w, func(p api.Vec) api.Vec { return at(-p.X, p.Y) })
		turned := moved(w, func(p api.Vec) api.Vec { return at(-p.Y, p.X) })
		cold := d
		cold.Heat = api.Span{}
		for _, f := range enclosures() {
			r, _ := f.f(w, cold, tick, a)
			if s, e := f.f(mirrored, cold, tick, mirror(a)); s != mirror(r) || e != api.OK {
				t.Fatal("mirrored", f.name, w, d, a, r, s)
			}
			r, _ = f.f(w, d, tick, a)
			if s, e := f.f(turned, d, tick, turn(a)); s != turn(r) || e != api.OK {
				t.Fatal("turned", f.name, w, d, a, r, s)
			}
		}
	}
}

// TestP3_10Heavier compares the pulls of two bodies of which one is heavier.
func TestP3_10Heavier(t *testing.T) {
	d := draw(310)
	for range 30000 {
		w, a := d.world(49, 500), d.area(500)
		heavier := moved(w, func(p api.Vec) api.Vec { return p })
		heavier.Bodies[0].Mu += d.mass(49)
		r, _ := force.One(w, 0, 1, a)
		s, e := force.One(heavier, 0, 1, a)
		if e != api.OK {
			t.Fatal(e)
		}
		for _, n := range [][2]int64{{r.X.Lo, s.X.Lo}, {r.X.Hi, s.X.Hi}, {r.Y.Lo, s.Y.Lo}, {r.Y.Hi, s.Y.Hi}} {
			if n[0] > 0 && n[1] < n[0] || n[0] < 0 && n[1] > n[0] {
				t.Fatal(w, a, r, s)
			}
		}
	}
}

// TestP3_10Farther moves a body away along each axis.
func TestP3_10Farther(t *testing.T) {
	d := draw(311)
	for range 20000 {
		radius := d.below(20)
		mu, near := d.mass(50), max(1, radius)+d.below(300)
		far := near + d.below(300)
		for _, axis := range [][2]int64{{1, 0}, {-1, 0}, {0, 1}, {0, -1}} {
			r, _ := force.One(single(mu, radius, near*axis[0], near*axis[1]), 0, 0, alone(at(0, 0)))
			s, _ := force.One(single(mu, radius, far*axis[0], far*axis[1]), 0, 0, alone(at(0, 0)))
			lo, hi := r.X.Lo*axis[0]+r.Y.Lo*axis[1], r.X.Hi*axis[0]+r.Y.Hi*axis[1]
			nextLo, nextHi := s.X.Lo*axis[0]+s.Y.Lo*axis[1], s.X.Hi*axis[0]+s.Y.Hi*axis[1]
			if nextLo > lo || nextHi > hi || min(nextLo, nextHi) < 0 {
				t.Fatal(mu, radius, near, far, axis, r, s)
			}
		}
	}
}

// TestP3_11Within goes outwards from the middle of a body: the pull grows up to the edge, and farther out the radius does not matter.
func TestP3_11Within(t *testing.T) {
	size := func(s api.Span) api.Span {
		return of(min(max(s.Lo, -s.Lo), max(s.Hi, -s.Hi)), max(s.Lo, -s.Lo, s.Hi, -s.Hi))
	}
	d := draw(312)
	for range 2000 {
		mu, radius, x, y := d.mass(50), 1+d.below(200), d.upTo(5), d.upTo(5)
		last := area(0, 0, 0, 0)
		for k := int64(0); k < 60 && (x != 0 || y != 0); k++ {
			p := at(k*x, k*y)
			r, e := force.One(single(mu, radius, 0, 0), 0, 0, alone(p))
			if e != api.OK {
				t.Fatal(e)
			}
			if square := p.X*p.X + p.Y*p.Y; square > radius*radius {
				if s, _ := force.One(single(mu, 0, 0, 0), 0, 0, alone(p)); s != r {
					t.Fatal("outside", mu, radius, p, r, s)
				}
				break
			}
			now := api.Area{X: size(r.X), Y: size(r.Y)}
			if now.X.Lo < last.X.Lo || now.X.Hi < last.X.Hi || now.Y.Lo < last.Y.Lo || now.Y.Hi < last.Y.Hi {
				t.Fatal("nearer is stronger", mu, radius, p, r, last)
			}
			last = now
		}
	}
}

func TestP3_12Energy(t *testing.T) {
	d := draw(313)
	for range 20000 {
		w, tick := d.world(49, 1000), d.below(7)
		s := api.State{X: d.upTo(1000), Y: d.upTo(1000), U: d.upTo(1 << 19), V: d.upTo(1 << 19)}
		r, e := force.Energy(w, tick, s)
		if e != api.OK || r.Lo > r.Hi {
			t.Fatal(r, e)
		}
		faster, du, dv := s, d.below(1<<19), d.below(1<<19)
		faster.U += sign(s.U) * du
		faster.V += sign(s.V) * dv
		more := faster.U*faster.U + faster.V*faster.V - s.U*s.U - s.V*s.V
		if f, _ := force.Energy(w, tick, faster); f != of(r.Lo+more, r.Hi+more) || more < 0 {
			t.Fatal("faster", s, faster, r, f)
		}
		i := d.below(int64(len(w.Bodies)))
		heavier := moved(w, func(p api.Vec) api.Vec { return p })
		heavier.Bodies[i].Mu += 10000 + d.mass(49)
		if h, _ := force.Energy(heavier, tick, s); h.Lo >= r.Lo || h.Hi >= r.Hi {
			t.Fatal("heavier", w, i, r, h)
		}
	}
}

func TestP3_12Massless(t *testing.T) {
	d := draw(314)
	for range 20000 {
		w, tick, p := d.world(10, 20), d.below(7), at(d.upTo(20), d.upTo(20))
		if n, ok := force.Ruler(w, tick, p); ok && w.Bodies[n].Mu == 0 && len(w.Bodies) > 1 {
			t.Fatal(w, tick, p, n)
		}
		alone := api.World{Bodies: []api.Body{{Radius: w.Bodies[0].Radius, Track: w.Bodies[0].Track}}}
		if n, ok := force.Ruler(alone, tick, p); n != 0 || !ok {
			t.Fatal("alone", alone, p, n, ok)
		}
	}
}
