package meet_test

import (
	"slices"
	"testing"

	"bolide/api"
	"bolide/meet"
	"bolide/orbit"
	"bolide/span"
)

// firstHit is the number of the first passage of a truth that hits; -1 if there is none.
func firstHit(s scene, l []api.State) int {
	for i := range len(l) - 1 {
		if hits(s, l, i) {
			return i
		}
	}
	return -1
}

// TestP5_6Fates follows truths from boxes whose fate is known.
func TestP5_6Fates(t *testing.T) {
	d := draw(56)
	count := map[int]int{}
	for range 20000 {
		s := d.scene(0)
		b := d.box(s)
		fate, _ := meet.Find(s.w, s.d, s.tick, b, s.ticks)
		for range 3 {
			l := d.truth(s, b)
			first := meet.Hit(s.w, s.tick, l)
			if first != firstHit(s, l) || orbit.Truth(s.w, s.d, s.tick, l) != -1 {
				t.Fatal("Hit", s, l, first)
			}
			switch fate.Kind {
			case api.FateMiss:
				if first >= 0 || len(l) != s.ticks+1 {
					t.Fatal("it misses", s, b, l, first)
				}
			case api.FateHit:
				if !hits(s, l, fate.Passage) {
					t.Fatal("it hits", s, b, l, fate)
				}
			}
			count[fate.Kind]++
		}
	}
	if count[api.FateMiss] < 5000 || count[api.FateHit] < 5000 || count[api.FateOpen] < 5000 {
		t.Error("too few cases", count)
	}
}

// TestP5_7Exclusion follows truths from sets that are excluded, and excludes them again in more rounds.
func TestP5_7Exclusion(t *testing.T) {
	d := draw(57)
	count := map[bool]int{}
	for range 8000 {
		s, rounds := d.scene(3), int(d.below(6))
		is, e := meet.Excluded(s.w, s.d, s.tick, s.l, s.ticks, rounds)
		if e != api.OK {
			t.Fatal(e)
		}
		hit := false
		for _, b := range s.l {
			for range 5 {
				hit = hit || meet.Hit(s.w, s.tick, d.truth(s, b)) >= 0
			}
		}
		if is && hit {
			t.Fatal("it hits", s, rounds)
		}
		if more, _ := meet.Excluded(s.w, s.d, s.tick, s.l, s.ticks, rounds+1+int(d.below(3))); is && !more {
			t.Fatal("more rounds", s, rounds)
		}
		count[is && len(s.l) > 0]++
	}
	if count[true] < 400 || count[false] < 400 {
		t.Error("too few cases", count)
	}
}

// TestP5_8Cover counts the cells of states, and finds certain cells again in more rounds.
func TestP5_8Cover(t *testing.T) {
	d := draw(58)
	certain := 0
	for range 3000 {
		s, rounds := d.scene(0), int(d.below(6))
		b := d.box(s)
		cells, e := meet.Cover(s.w, s.d, s.tick, b, s.ticks, rounds)
		if e != api.OK {
			t.Fatal(e)
		}
		for range 5 {
			x, n := d.stateIn(b), 0
			for _, c := range cells {
				if orbit.Holds(c.Box, x) {
					n++
				}
			}
			if n != 1 {
				t.Fatal("not in one cell", s, b, x, n)
			}
		}
		for _, c := range cells {
			if !orbit.Within(boxes(c.Box), boxes(b)) {
				t.Fatal("not in the box", s, b, c)
			}
		}
		more, _ := meet.Cover(s.w, s.d, s.tick, b, s.ticks, rounds+1+int(d.below(2)))
		for _, c := range cells {
			if c.Fate.Kind != api.FateOpen {
				certain++
				if !slices.Contains(more, c) {
					t.Fatal("it does not stay", s, b, c)
				}
			}
		}
	}
	if certain < 3000 {
		t.Error("too few cases", certain)
	}
}

// TestP5_8Inside compares the fates of boxes of which one is inside the other one.
func TestP5_8Inside(t *testing.T) {
	d := draw(581)
	count := map[int]int{}
	for range 20000 {
		s := d.scene(0)
		b := d.box(s)
		outer, _ := meet.Find(s.w, s.d, s.tick, b, s.ticks)
		inner, e := meet.Find(s.w, s.d, s.tick, d.inside(b), s.ticks)
		if e != api.OK || outer.Kind != api.FateOpen && inner.Kind != outer.Kind || inner.Kind == api.FateHit && outer.Kind == api.FateHit && inner.Passage > outer.Passage {
			t.Fatal(s, b, outer, inner)
		}
		count[outer.Kind]++
	}
	if count[api.FateMiss] < 2000 || count[api.FateHit] < 2000 {
		t.Error("too few cases", count)
	}
}

// TestP5_9Chance adds the weights of boxes whose truths hit.
func TestP5_9Chance(t *testing.T) {
	d := draw(59)
	for range 5000 {
		s := d.scene(6)
		var weights []int64
		sum := int64(0)
		for _, b := range s.l {
			n := d.below(1000)
			weights = append(weights, n)
			if meet.Hit(s.w, s.tick, d.truth(s, b)) >= 0 {
				sum += n
			}
		}
		c, e := meet.Odds(s.w, s.d, s.tick, s.l, weights, s.ticks)
		if e != api.OK || sum < c.Least || sum > c.Most || c.Least > c.Most || c.Most > c.All {
			t.Fatal(s, weights, sum, c)
		}
	}
}

// TestP5_10Greater has a greater radius, of a Home without a mass: within its radius the pull of a body depends on it.
func TestP5_10Greater(t *testing.T) {
	d := draw(510)
	count := map[int]int{}
	for range 20000 {
		s := d.scene(0)
		s.w.Bodies[s.w.Home].Mu = 0
		b := d.box(s)
		less, _ := meet.Find(s.w, s.d, s.tick, b, s.ticks)
		greater := api.World{Bodies: slices.Clone(s.w.Bodies), Home: s.w.Home}
		greater.Bodies[s.w.Home].Radius += d.below(20)
		more, e := meet.Find(greater, s.d, s.tick, b, s.ticks)
		if e != api.OK || more.Kind == api.FateMiss && less.Kind != api.FateMiss || less.Kind == api.FateHit && (more.Kind != api.FateHit || more.Passage > less.Passage) {
			t.Fatal("radius", s, b, less, more)
		}
		longer, e := meet.Find(s.w, s.d, s.tick, b, s.ticks+int(d.below(5)))
		if e != api.OK || longer.Kind == api.FateMiss && less.Kind != api.FateMiss || less.Kind == api.FateHit && longer != less {
			t.Fatal("ticks", s, b, less, longer)
		}
		count[less.Kind]++
	}
	if count[api.FateMiss] < 2000 || count[api.FateHit] < 2000 || count[api.FateOpen] < 2000 {
		t.Error("too few cases", count)
	}
}

// TestP5_10Mass has a greater radius of a Home with a mass: what misses it also misses the lesser one.
func TestP5_10Mass(t *testing.T) {
	d := draw(5101)
	count := 0
	for range 20000 {
		s := d.scene(0)
		b := d.box(s)
		less, _ := meet.Find(s.w, s.d, s.tick, b, s.ticks)
		greater := api.World{Bodies: slices.Clone(s.w.Bodies), Home: s.w.Home}
		greater.Bodies[s.w.Home].Radius += d.below(20)
		more, e := meet.Find(greater, s.d, s.tick, b, s.ticks)
		if e != api.OK || more.Kind == api.FateMiss && less.Kind != api.FateMiss {
			t.Fatal(s, b, less, more)
		}
		if more.Kind == api.FateMiss {
			count++
		}
	}
	if count < 1000 {
		t.Error("too few cases", count)
	}
}

func TestP5_11Aim(t *testing.T) {
	d := draw(5111)
	aims := 0
	for range 50000 {
		n := int64(1) << (2 + d.below(27))
		wide := []int64{0, 3, n}[d.below(3)]
		a, b := d.area(n, wide), d.area(n, wide)
		all, ok := meet.Aim(a, b)
		back, is := meet.Aim(b, a)
		if ok != is || ok && back != of(-all.Hi, -all.Lo) {
			t.Fatal("round", a, b, all, back)
		}
		p, q := d.spotIn(a), d.spotIn(b)
		one, is := meet.Aim(p, q)
		if ok && (!is || !isIn(one, all)) {
			t.Fatal("inside", a, b, p, q, all, one)
		}
		distance := max(0, one.Lo, -one.Hi)
		if miss := span.Miss(at(p.X.Lo, p.Y.Lo), at(q.X.Lo, q.Y.Lo)); is && distance > miss {
			t.Fatal("Miss", p, q, one, miss)
		}
		if ok {
			aims++
		}
	}
	if aims < 10000 {
		t.Error("too few cases", aims)
	}
}

// TestP5_12Keyholes follows truths that come back to hit through the keyholes of their sets.
func TestP5_12Keyholes(t *testing.T) {
	d := draw(512)
	through := 0
	for range 20000 {
		s, near := d.scene(3), d.below(60)
		holes, e := meet.Keyholes(s.w, s.d, s.tick, s.l, s.ticks, near)
		if e != api.OK {
			t.Fatal(e)
		}
		for _, b := range s.l {
			passages := passagesOf(s, b)
			n := slices.IndexFunc(passages, func(p pass) bool { return !p.clear(near) })
			l := d.truth(s, b)
			for i := n + 1; i < len(l)-1; i++ {
				if n < 0 || !hits(s, l, i) {
					continue
				}
				if len(holes) == 0 {
					t.Fatal("without keyholes", s, b, l)
				}
				tick := s.tick + int64(n)
				p, q := areaOf(s.w, tick, alone(l[n])), areaOf(s.w, tick+1, alone(l[n+1]))
				if aim, ok := meet.Aim(p, q); ok {
					if !slices.ContainsFunc(holes, func(k api.Keyhole) bool { return k.Tick == tick && isIn(aim, k.Line) }) || !meet.Enters(holes, tick, aim) {
						t.Fatal("not inside", s, b, l, aim, holes)
					}
					through++
				}
			}
		}
		for i, k := range holes {
			if k.Line.Lo > k.Line.Hi || i > 0 && (k.Tick < holes[i-1].Tick || k.Tick == holes[i-1].Tick && k.Line.Lo <= holes[i-1].Line.Hi+1) {
				t.Fatal("order", holes)
			}
		}
	}
	if through < 2000 {
		t.Error("too few cases", through)
	}
}

// TestP5_13Returns compares the returns of two distances, and finds the passages of truths in them.
func TestP5_13Returns(t *testing.T) {
	d := draw(513)
	found := 0
	for range 20000 {
		s, near := d.scene(0), d.below(100)
		b := d.box(s)
		l, e := meet.Returns(s.w, s.d, s.tick, b, s.ticks, near)
		if e != api.OK || !slices.IsSorted(l) {
			t.Fatal(l, e)
		}
		lesser, _ := meet.Returns(s.w, s.d, s.tick, b, s.ticks, d.below(near+1))
		for _, n := range lesser {
			if !slices.Contains(l, n) {
				t.Fatal("lesser", s, b, near, l, lesser)
			}
		}
		truth := d.truth(s, b)
		lost := len(passagesOf(s, b)) < s.ticks
		for i := range len(truth) - 1 {
			if meet.Within(s.w, s.tick+int64(i), truth[i], truth[i+1], near) && !lost {
				found++
				if !slices.Contains(l, i) {
					t.Fatal("within", s, b, near, truth, l)
				}
			}
		}
	}
	if found < 5000 {
		t.Error("too few cases", found)
	}
}
