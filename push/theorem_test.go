package push_test

import (
	"slices"
	"testing"

	"bolide/api"
	"bolide/meet"
	"bolide/orbit"
	"bolide/push"
)

// wider returns a span that contains another one, of numbers from lo to hi.
func (d *draw) wider(s api.Span, lo, hi int64) api.Span {
	return of(max(lo, s.Lo-d.below(200)), min(hi, s.Hi+d.below(200)))
}

// TestP8_7Inclusion compares what missions do to states and boxes inside of boxes, and with wider spans.
func TestP8_7Inclusion(t *testing.T) {
	d := draw(87)
	done := map[int]int{}
	for range 30000 {
		s := d.scene(0, 3)
		tick, b := s.tick+d.below(6), d.cell(s)
		inner := d.inside(b)
		for _, m := range s.c.Missions {
			all, e := push.Does(s.w, m, s.c.Body, tick, b)
			part, _ := push.Does(s.w, m, s.c.Body, tick, inner)
			state, _ := push.Does(s.w, m, s.c.Body, tick, alone(d.stateIn(b)))
			if e != api.OK || !isPart(part, all) || !isPart(state, all) {
				t.Fatal("inside", s.w, m, s.c.Body, tick, b, all, part, state)
			}
			wide := m
			wide.Mult, wide.Mass, wide.Power = d.wider(m.Mult, 1000, 10000), d.wider(m.Mass, 1, 1<<20), d.wider(m.Power, 0, power)
			more, e := push.Does(s.w, wide, d.wider(s.c.Body, 1, heavy), tick, b)
			if e != api.OK || !isPart(all, more) {
				t.Fatal("wider", s.w, m, wide, s.c.Body, tick, b, all, more)
			}
			if all != (api.Area{}) {
				done[m.Kind]++
			}
		}
		whole, e := push.Push(s.w, s.c.Missions, s.c.Body, tick, b)
		part, over := push.Push(s.w, s.c.Missions, s.c.Body, tick, inner)
		if e == api.OK && (over != api.OK || !orbit.Within(boxes(part), boxes(whole))) {
			t.Fatal("pushed", s, tick, b, inner, whole, part)
		}
	}
	for kind := api.PushImpact; kind <= api.PushBeam; kind++ {
		if done[kind] < 1000 {
			t.Error("too few cases", done)
		}
	}
}

// TestP8_8Safe follows pushed truths from the cells of campaigns that are safe, for each failure set.
func TestP8_8Safe(t *testing.T) {
	d := draw(88)
	followed, moved, failed := 0, 0, 0
	for range 20000 {
		s := d.scene(3, 4)
		if v, _ := s.verify(); !v.Safe {
			continue
		}
		for _, failures := range push.Failures(s.c) {
			var l []api.Mission
			for _, n := range push.Working(s.c, failures) {
				l = append(l, s.c.Missions[n])
			}
			for _, b := range s.set {
				states, after := d.pushedTruth(s, l, b)
				if len(states) != s.c.Ticks+1 {
					t.Fatal("over", s, failures, b, states)
				}
				for i, from := range after {
					tick, next := s.tick+int64(i), states[i+1]
					if !push.Pushed(s.w, l, s.c.Body, tick, states[i], from) || !orbit.Possible(s.w, s.d, tick, from, next) {
						t.Fatal("no pushed truth", s, failures, states, after)
					}
					if meet.Within(s.w, tick, from, next, s.c.Miss) {
						t.Fatal("it comes within Miss", s, failures, states)
					}
					if crosses(s.w, tick, alone(from), alone(next), s.c.Keys) {
						t.Fatal("it goes through a keyhole", s, failures, states)
					}
					if from != states[i] {
						moved++
					}
				}
				followed++
				failed += len(failures)
			}
		}
	}
	if followed < 3000 || moved < 1000 || failed < 1000 {
		t.Error("too few cases", followed, moved, failed)
	}
}

// TestP8_8Near looks at truths of campaigns that are not safe: some of them come near, so that the one above can fail.
func TestP8_8Near(t *testing.T) {
	d := draw(881)
	near := 0
	for range 5000 {
		s := d.scene(3, 4)
		v, _ := s.verify()
		if v.Why != api.WhyHit {
			continue
		}
		states, after := d.pushedTruth(s, flown(s.c, v.Failed), s.set[v.Cell])
		for i, from := range after {
			if meet.Within(s.w, s.tick+int64(i), from, states[i+1], s.c.Miss) {
				if s.tick+int64(i) < v.Tick {
					t.Fatal("the verdict names the first one", s, v, states)
				}
				near++
				break
			}
		}
	}
	if near < 500 {
		t.Error("too few cases", near)
	}
}

// TestP8_10Less asks less of campaigns that are safe.
func TestP8_10Less(t *testing.T) {
	d := draw(810)
	asked := 0
	for range 20000 {
		s := d.scene(3, 4)
		if v, _ := s.verify(); !v.Safe {
			continue
		}
		less := s
		if len(s.set) > 0 {
			less.set = slices.Delete(slices.Clone(s.set), 0, int(d.below(int64(len(s.set)))))
			less.set[0] = d.inside(less.set[0])
		}
		less.c.Fails, less.c.Miss, less.c.Ticks = int(d.below(int64(s.c.Fails+1))), d.below(s.c.Miss+1), int(1+d.below(int64(s.c.Ticks)))
		less.c.Keys = s.c.Keys[:d.below(int64(len(s.c.Keys)+1))]
		if v, e := less.verify(); !v.Safe || e != api.OK {
			t.Fatal(s, less, v, e)
		}
		if len(s.set) > 0 && len(s.c.Missions) > 0 {
			asked++
		}
	}
	if asked < 1000 {
		t.Error("too few cases", asked)
	}
}

// TestP8_11First looks for something that applies before what the verdict names.
func TestP8_11First(t *testing.T) {
	d := draw(8111)
	named := 0
	for range 10000 {
		s := d.scene(4, 4)
		v, _ := s.verify()
		if v.Safe {
			continue
		}
		l := push.Failures(s.c)
		n := slices.IndexFunc(l, func(failed []int) bool { return slices.Equal(failed, v.Failed) })
		if n < 0 {
			t.Fatal(s, v)
		}
		if v.Cell > 0 || v.Tick > s.tick { // the cells before it, and its ticks before
			before := s
			before.set, before.c.Fails = s.set[:v.Cell], 0
			if n == 0 {
				if v, _ := before.verify(); !v.Safe {
					t.Fatal("a cell before", s, v)
				}
			}
			before.set, before.c.Ticks = s.set[v.Cell:v.Cell+1], int(v.Tick-s.tick)
			before.c.Missions = flown(s.c, v.Failed)
			for i := range before.c.Missions {
				before.c.Missions[i].Reserve = false
			}
			if before.c.Ticks > 0 {
				if v, _ := before.verify(); !v.Safe {
					t.Fatal("a tick before", s, v)
				}
			}
			before.c.Ticks++
			if again, _ := before.verify(); again.Safe || again.Why != v.Why || again.Tick != v.Tick {
				t.Fatal("not this tick", s, v, again)
			}
			named++
		}
		if fewer := s; len(v.Failed) > 0 {
			fewer.c.Fails = len(v.Failed) - 1
			if v, _ := fewer.verify(); !v.Safe {
				t.Fatal("a failure set before", s, v)
			}
		}
	}
	if named < 1000 {
		t.Error("too few cases", named)
	}
}

// TestP8_12Nothing has missions that do nothing, that undo each other, and that are twice as strong.
func TestP8_12Nothing(t *testing.T) {
	d := draw(8121)
	undone := 0
	for range 20000 {
		s := d.scene(0, 0)
		m, b := d.mission(s.tick, 6), d.cell(s)
		m.Kind, m.Launch = api.PushImpact, max(0, m.Arrive-1) // in one tick: its speed is a whole number
		p := d.stateIn(b)
		speeds, _ := push.Speeds(s.w, m, placesOf(alone(p)))
		p.U, p.V = speeds.X.Lo, speeds.Y.Lo
		if a, e := push.Does(s.w, m, s.c.Body, m.Arrive, alone(p)); a != (api.Area{}) || e != api.OK {
			t.Fatal("as fast", s.w, m, p, a, e)
		}
		m = d.mission(s.tick, 6)
		m.Kind = api.PushCharge
		one, _ := push.Does(s.w, m, s.c.Body, m.Arrive, b)
		m.Power = of(2*m.Power.Lo, 2*m.Power.Hi)
		two, e := push.Does(s.w, m, s.c.Body, m.Arrive, b)
		if e != api.OK || !doesNoLess(two.X, one.X) || !doesNoLess(two.Y, one.Y) {
			t.Fatal("twice", m, s.c.Body, one, two, e)
		}
		m.Power = only(0)
		if a, e := push.Does(s.w, m, s.c.Body, m.Arrive, b); a != (api.Area{}) || e != api.OK {
			t.Fatal("without power", m, a, e)
		}
		m = d.mission(s.tick, 6)
		tick := m.Arrive + d.below(5)
		m.Kind = api.PushTractor
		there, _ := push.Does(s.w, m, s.c.Body, tick, b)
		m.Kind = api.PushBeam
		back, e := push.Does(s.w, m, s.c.Body, tick, b)
		if e != api.OK || there.X != negative(back.X) || there.Y != negative(back.Y) {
			t.Fatal("undone", m, tick, there, back, e)
		}
		if there != (api.Area{}) {
			undone++
		}
	}
	if undone < 3000 {
		t.Error("too few cases", undone)
	}
}

// doesNoLess is whether the ends of a are no nearer to 0 than those of b, and on the same side.
func doesNoLess(a, b api.Span) bool {
	noLess := func(m, n int64) bool { return n >= 0 && m >= n || n <= 0 && m <= n }
	return noLess(a.Lo, b.Lo) && noLess(a.Hi, b.Hi)
}

// TestP8_12Undo pushes states there and back.
func TestP8_12Undo(t *testing.T) {
	d := draw(8122)
	for range 5000 {
		s := d.scene(0, 0)
		m, p := d.mission(s.tick, 6), d.stateIn(d.cell(s))
		m.Kind, m.Power = api.PushTractor, only(m.Power.Lo)
		back := m
		back.Kind = api.PushBeam
		b, e := push.Push(s.w, missions(m, back), s.c.Body, m.Arrive, alone(p))
		if e != api.OK || !orbit.Holds(b, p) {
			t.Fatal(s.w, m, p, b, e)
		}
	}
}

// TestP8_13Chosen verifies what was chosen, and what was not; what it is worth is compared in TestP8_5Any, too.
func TestP8_13Chosen(t *testing.T) {
	d := draw(813)
	count := map[bool]int{}
	for range 5000 {
		s := d.scene(3, 0)
		l := d.campaigns(s, 5)
		n, e := s.choose(l)
		if e != api.OK || n < -1 || n >= len(l) {
			t.Fatal(s, l, n, e)
		}
		last := n
		if n < 0 {
			last = len(l) - 1
		}
		for i, c := range l[:last+1] {
			s.c = c
			if v, _ := s.verify(); v.Safe != (i == n) {
				t.Fatal(s, l, n, i, v)
			}
		}
		count[n > 0]++
	}
	if count[true] < 200 {
		t.Error("too few cases", count)
	}
}

// TestP8_14Windows flies faster, and to truths.
func TestP8_14Windows(t *testing.T) {
	d := draw(814)
	reached := 0
	for range 20000 {
		s := d.scene(3, 0)
		launch, fast, ticks := d.below(12), 1+d.below(200), int(d.below(8))
		l, e := s.windows(launch, fast, ticks)
		if e != api.OK {
			continue
		}
		more, _ := s.windows(launch, fast+d.below(100), ticks)
		if slices.ContainsFunc(l, func(t int64) bool { return !slices.Contains(more, t) }) || !slices.IsSorted(l) {
			t.Fatal("faster", s, launch, fast, ticks, l, more)
		}
		s.c.Ticks = ticks
		for _, b := range s.set {
			states, _ := d.pushedTruth(s, nil, b)
			for _, tick := range l {
				p := states[tick-s.tick]
				craft := with(impactor(), func(m *api.Mission) { m.Launch, m.Arrive = launch, tick })
				if !push.Reaches(s.w, craft, placesOf(alone(p)), fast) {
					t.Fatal("not reached", s, launch, fast, tick, p)
				}
				reached++
			}
		}
	}
	if reached < 3000 {
		t.Error("too few cases", reached)
	}
}
