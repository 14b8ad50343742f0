package orbit_test

import (
	"slices"
	"testing"

	"bolide/api"
	"bolide/force"
	"bolide/orbit"
	"bolide/sky"
)

// TestP4_7Successors steps boxes, and states in them.
func TestP4_7Successors(t *testing.T) {
	draw := draw(71)
	for range 20000 {
		w, d, tick, b := draw.world(24, 60), draw.drift(), draw.below(9), draw.box(60, 30)
		step, e := orbit.Step(w, d, tick, b)
		if e != api.OK {
			continue
		}
		for range 6 {
			s := draw.state(b)
			next, ok := draw.successor(w, d, tick, s)
			if ok && (!orbit.Possible(w, d, tick, s, next) || !orbit.Holds(step, next)) {
				t.Fatal(w, d, tick, b, s, next, step)
			}
		}
	}
}

// TestP4_7Inclusion steps boxes that lie in others.
func TestP4_7Inclusion(t *testing.T) {
	draw := draw(72)
	both := 0
	for range 30000 {
		far := []int64{5, 100, place - 1<<20}[draw.below(3)]
		w, d, tick, b := draw.world(40, far), draw.drift(), draw.below(9), draw.box(far, min(far, speed/2))
		for i := range w.Bodies {
			w.Bodies[i].Radius = min(w.Bodies[i].Radius, api.MaxRadius)
		}
		greater, e := orbit.Step(w, d, tick, b)
		if e != api.OK {
			continue
		}
		lesser, e := orbit.Step(w, d, tick, draw.part(b))
		if e != api.OK || !orbit.Within(boxes(lesser), boxes(greater)) {
			t.Fatal(w, d, tick, b, lesser, greater, e)
		}
		both++
	}
	if both < 10000 {
		t.Error("too few cases", both)
	}
}

// TestP4_8Truth makes truths and sights that agree with them: the updated sets have them.
func TestP4_8Truth(t *testing.T) {
	draw := draw(73)
	taken, checked := 0, 0
	for range 3000 {
		far := []int64{40, 300, 3000}[draw.below(3)]
		s, d, tick, l := draw.sky(24, far), draw.drift(), draw.below(9), draw.boxes(8, far, 20)
		truth := []api.State{draw.state(l[draw.below(int64(len(l)))])}
		var sights []api.Sight
		for n := range int64(6) {
			now := truth[n]
			sights = append(sights, draw.seen(s, tick+n, at(now.X, now.Y), 4, 2*far)...)
			next, ok := draw.successor(s.World, d, tick+n, now)
			if !ok {
				break
			}
			truth = append(truth, next)
		}
		if orbit.Truth(s.World, d, tick, truth) != -1 {
			t.Fatal("no truth", truth)
		}
		for n, now := range truth {
			got, e := orbit.Update(s, d, tick, l, n, sights)
			if e == api.ErrOver {
				break
			}
			if e != api.OK || !orbit.In(got, now) {
				t.Fatal(s, d, tick, l, n, sights, now, got, e)
			}
			taken, checked = taken+len(l)-len(got), checked+1
		}
	}
	if taken < 5000 || checked < 5000 {
		t.Error("too few cases", taken, checked)
	}
}

// TestP4_9Least steps single states: nothing is in the step that need not be.
func TestP4_9Least(t *testing.T) {
	draw := draw(74)
	for range 5000 {
		w, d, tick, s := draw.world(24, 60), draw.drift(), draw.below(9), draw.state(box(-60, 60, -60, 60, -30, 30, -30, 30))
		a, _ := force.Pull(w, d, tick, at(s.X, s.Y))
		var next []api.Box
		valid := true
		for _, u := range []int64{s.U + a.X.Lo, s.U + a.X.Hi} {
			for _, v := range []int64{s.V + a.Y.Lo, s.V + a.Y.Hi} {
				n := state(s.X+u, s.Y+v, u, v)
				valid = valid && isState(n)
				if valid && !orbit.Possible(w, d, tick, s, n) {
					t.Fatal("not possible", s, n)
				}
				next = append(next, alone(n))
			}
		}
		if step, e := orbit.Step(w, d, tick, alone(s)); valid && (step != hullOf(next...) || e != api.OK) || !valid && e != api.ErrOver {
			t.Fatal(w, d, tick, s, step, e)
		}
	}
}

// TestP4_9All looks at all states near a step: those that are possible have the step as their hull.
func TestP4_9All(t *testing.T) {
	draw := draw(75)
	for range 60 {
		w, d, tick, s := draw.world(6, 8), api.Drift{Gas: draw.below(3)}, draw.below(9), draw.state(box(-8, 8, -8, 8, -3, 3, -3, 3))
		step, _ := orbit.Step(w, d, tick, alone(s))
		var found []api.Box
		for u := step.U.Lo - 2; u <= step.U.Hi+2; u++ {
			for v := step.V.Lo - 2; v <= step.V.Hi+2; v++ {
				for _, n := range statesOf(box(s.X+u-1, s.X+u+1, s.Y+v-1, s.Y+v+1, u, u, v, v)) {
					if orbit.Possible(w, d, tick, s, n) {
						found = append(found, alone(n))
					}
				}
			}
		}
		if len(found) == 0 || hullOf(found...) != step {
			t.Fatal(w, d, tick, s, step, found)
		}
	}
}

// TestP4_10Once counts the parts and the cells that have a state.
func TestP4_10Once(t *testing.T) {
	draw := draw(76)
	for range 500 {
		b, n := draw.box(3, 2), 1+int(draw.below(40))
		cells, e := orbit.Cells(b, n)
		if e != api.OK {
			t.Fatal(e)
		}
		low, high, ok := orbit.Split(b)
		for _, s := range statesOf(b) {
			if howMany(cells, s) != 1 || ok && howMany(boxes(low, high), s) != 1 {
				t.Fatal(b, n, s, cells)
			}
		}
		if !orbit.Within(cells, boxes(b)) || ok && !orbit.Within(boxes(low, high), boxes(b)) {
			t.Fatal("more than the box", b, n)
		}
	}
	for range 100 {
		b := draw.box(place, speed)
		cells, _ := orbit.Cells(b, 512)
		for range 20 {
			if s := draw.state(b); howMany(cells, s) != 1 {
				t.Fatal(b, s)
			}
		}
		if !orbit.Within(cells, boxes(b)) {
			t.Fatal("more than the box", b)
		}
	}
}

// TestP4_11Agrees filters and refines sets: states that agree stay, and nothing comes in.
func TestP4_11Agrees(t *testing.T) {
	draw := draw(77)
	stayed, taken := 0, 0
	for range 3000 {
		s, tick, l := draw.sky(20, 12), draw.below(9), draw.boxes(4, 9, 2)
		sights := draw.sights(3, tick, 20)
		for i := range sights {
			if draw.below(2) == 0 {
				sights[i].Tick = tick
			}
		}
		refined, e := orbit.Refine(s, tick, l, sights, int(draw.below(6)))
		filtered, f := orbit.Filter(s, tick, l, sights)
		if e != api.OK || f != api.OK {
			t.Fatal(e, f)
		}
		for range 30 {
			n := draw.state(l[draw.below(int64(len(l)))])
			agrees := !slices.ContainsFunc(sights, func(x api.Sight) bool { return x.Tick == tick && !sky.Agrees(s, x, at(n.X, n.Y)) })
			if agrees && (!orbit.In(refined, n) || !orbit.In(filtered, n)) {
				t.Fatal("taken out", s, tick, l, sights, n)
			}
			if agrees {
				stayed++
			} else if !orbit.In(refined, n) {
				taken++
			}
		}
		for _, b := range filtered {
			if !slices.Contains(l, b) {
				t.Fatal("came in", b)
			}
		}
		if !orbit.Within(refined, l) {
			t.Fatal("came in", refined)
		}
	}
	if stayed < 10000 || taken < 10000 {
		t.Error("too few cases", stayed, taken)
	}
}

// TestP4_12On goes on from where Propagate and Update ended.
func TestP4_12On(t *testing.T) {
	draw := draw(78)
	done := 0
	for range 3000 {
		s, d, tick, l := draw.sky(20, 300), draw.drift(), draw.below(9), draw.boxes(5, 300, 50)
		m, n := draw.below(6), draw.below(6)
		all, e := orbit.Propagate(s.World, d, tick, l, int(m+n))
		if e != api.OK {
			continue
		}
		first, f := orbit.Propagate(s.World, d, tick, l, int(m))
		then, g := orbit.Propagate(s.World, d, tick+m, first, int(n))
		if f != api.OK || g != api.OK || !slices.Equal(all, then) {
			t.Fatal(s, d, tick, l, m, n, f, g)
		}
		others := []api.Sight{draw.sight(max(0, tick-1), 300), draw.sight(tick+m+n+1, 300)}
		if tick == 0 {
			others = others[1:]
		}
		for _, sights := range [][]api.Sight{nil, others} {
			if got, e := orbit.Update(s, d, tick, l, int(m+n), sights); e != api.OK || !slices.Equal(got, all) {
				t.Fatal("without sights", s, d, tick, l, m, n, e)
			}
		}
		done++
	}
	if done < 1000 {
		t.Error("too few cases", done)
	}
}

// TestP4_13Pack packs sets, and others that they lie in.
func TestP4_13Pack(t *testing.T) {
	draw := draw(79)
	for range 5000 {
		outer := draw.boxes(12, 1000, 1000)
		var inner []api.Box
		for range draw.below(12) {
			inner = append(inner, draw.part(outer[draw.below(int64(len(outer)))]))
		}
		n := 1 + int(draw.below(14))
		packed, e := orbit.Pack(outer, n)
		hull, ok := orbit.Hull(outer)
		if e != api.OK || !ok || len(packed) > n || !orbit.Within(outer, packed) || !orbit.Within(packed, boxes(hull)) {
			t.Fatal(outer, n, packed, e)
		}
		one, e := orbit.Pack(inner, 1)
		all, f := orbit.Pack(outer, 1)
		if e != api.OK || f != api.OK || !slices.Equal(all, boxes(hull)) || !orbit.Within(inner, outer) || !orbit.Within(one, all) {
			t.Fatal(inner, outer, one, all)
		}
	}
}

// isSublist reports whether a has boxes of b alone, in their order.
func isSublist(a, b []api.Box) bool {
	for _, c := range b {
		if len(a) > 0 && a[0] == c {
			a = a[1:]
		}
	}
	return len(a) == 0
}

// TestP4_14More updates sets with more sights, and with more boxes.
func TestP4_14More(t *testing.T) {
	draw := draw(80)
	less, done := 0, 0
	for range 4000 {
		s, d, tick, l := draw.sky(20, 60), draw.drift(), draw.below(9), draw.boxes(6, 60, 20)
		sights, more, ticks := draw.sights(2, tick, 120), draw.sights(2, tick, 120), int(draw.below(6))
		set, e := orbit.Update(s, d, tick, l, ticks, sights)
		if e != api.OK {
			continue
		}
		done++
		lesser, e := orbit.Update(s, d, tick, l, ticks, append(more, sights...))
		if e != api.OK || !isSublist(lesser, set) {
			t.Fatal("more sights", s, d, tick, l, ticks, sights, more, e)
		}
		if len(lesser) < len(set) {
			less++
		}
		i := int(draw.below(int64(len(l) + 1)))
		before, _ := orbit.Update(s, d, tick, l[:i], ticks, sights)
		after, _ := orbit.Update(s, d, tick, l[i:], ticks, sights)
		one := draw.box(60, 20)
		alone, e := orbit.Update(s, d, tick, boxes(one), ticks, sights)
		if e != api.OK {
			continue
		}
		all, e := orbit.Update(s, d, tick, slices.Insert(slices.Clone(l), i, one), ticks, sights)
		if e != api.OK || !slices.Equal(all, slices.Concat(before, alone, after)) || !slices.Equal(set, slices.Concat(before, after)) {
			t.Fatal("one more box", s, d, tick, l, ticks, sights, one, e)
		}
	}
	if less < 300 || done < 2000 {
		t.Error("too few cases", less, done)
	}
}
