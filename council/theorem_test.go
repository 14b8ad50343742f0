package council_test

import (
	"slices"
	"testing"

	"bolide/api"
	"bolide/council"
)

// each hands items without errors to a test, with their council.
func each(seed draw, runs, n int, test func(d *draw, c api.Council, l []api.Item)) {
	d := &seed
	for range runs {
		c := d.council()
		l, _ := d.right(c, n)
		test(d, c, l)
	}
}

// only are the exercises of items, or the others.
func only(l []api.Item, drill bool) []api.Item {
	var part []api.Item
	for _, x := range l {
		if x.Drill == drill {
			part = append(part, x)
		}
	}
	return part
}

func TestP9_5Exercises(t *testing.T) {
	seen := 0
	each(95, 2000, 60, func(_ *draw, c api.Council, l []api.Item) {
		h := built(c, l)
		forReal, drill := built(c, only(l, false)), built(c, only(l, true))
		if !equalLedgers(h.Real, forReal.Real) || !equalLedgers(h.Drill, drill.Drill) {
			t.Fatal(c, l, h)
		}
		if !equalLedgers(forReal.Drill, api.Ledger{}) || !equalLedgers(drill.Real, api.Ledger{}) {
			t.Fatal("not empty", c, l)
		}
		sent, e := council.Alarms(c, l)
		alone, f := council.Alarms(c, only(l, false))
		none, g := council.Alarms(c, only(l, true))
		if e != api.OK || f != api.OK || g != api.OK || !slices.Equal(sent, alone) || len(none) > 0 {
			t.Fatal("alarms", c, l, sent, alone, none)
		}
		for n, x := range l {
			if x.Drill && !equalLedgers(built(c, l[:n]).Real, built(c, l[:n+1]).Real) {
				t.Fatal("an exercise changes the real ledger", c, l[:n+1])
			}
		}
		// What is the same in an exercise is the same but for its ledger.
		if as := built(c, drills(only(l, false)...)); !equalLedgers(as.Drill, forReal.Real) || !equalLedgers(as.Real, api.Ledger{}) {
			t.Fatal("as an exercise", c, l)
		}
		seen += len(drill.Drill.Sent)
	})
	if seen < 500 {
		t.Error("too few alarms of exercises", seen)
	}
}

// upTo is how many of items are not after a tick.
func upTo(l []api.Item, tick int64) int {
	return len(l) - len(slices.DeleteFunc(slices.Clone(l), func(x api.Item) bool { return x.Tick <= tick }))
}

func TestP9_6Facts(t *testing.T) {
	decided := map[int]int{}
	each(96, 1500, 60, func(d *draw, c api.Council, l []api.Item) {
		for tick := int64(0); tick < 60; tick += 1 + d.below(20) {
			now, e := council.AsOf(c, l, tick)
			n := upTo(l, tick)
			more := then(l[:n], fact(tick+1, 1, chance(1, 1, 1)), api.Item{Kind: 9, Tick: tick + 2}, fact(tick, 1, at(0)))
			then, f := council.AsOf(c, more, tick)
			if e != api.OK || f != api.OK || !council.Same(now, then) || !council.Same(now, built(c, l[:n])) {
				t.Fatal("as of", c, l, tick)
			}
		}
		h := built(c, l)
		for motion, m := range h.Real.Motions {
			x, e := council.Why(c, l, motion)
			if m.State == api.MotionOpen {
				continue
			}
			if e != api.OK || x != lastFact(c, l, motion) {
				t.Fatal("why", c, l, motion, x, e)
			}
			decided[m.State]++
		}
	})
	for _, state := range []int{api.MotionPassed, api.MotionFailed, api.MotionVoid} {
		if decided[state] < 200 {
			t.Error("too few motions", state, decided[state])
		}
	}
}

// lastFact is the last chance of the target of a real motion up to the item by which the motion was decided.
func lastFact(c api.Council, l []api.Item, motion int) api.Chance {
	var h api.House
	chances := map[int]api.Chance{}
	for _, x := range l {
		h, _ = step(c, h, x)
		if x.Kind == api.ItemFact && !x.Drill {
			chances[x.A] = x.Chance
		}
		if motion < len(h.Real.Motions) && h.Real.Motions[motion].State != api.MotionOpen {
			return chances[h.Real.Motions[motion].Target]
		}
	}
	return api.Chance{}
}

func TestP9_7Votes(t *testing.T) {
	passed, failed := 0, 0
	each(97, 3000, 60, func(_ *draw, c api.Council, l []api.Item) {
		h := built(c, l)
		weight, all := weights(c)
		for _, m := range slices.Concat(h.Real.Motions, h.Drill.Motions) {
			sum, once := int64(0), map[int]bool{}
			for _, id := range m.Voted {
				sum += weight[id]
				if weight[id] == 0 || once[id] {
					t.Fatal("voted", c, m)
				}
				once[id] = true
			}
			if m.Yes < 0 || m.No < 0 || m.Yes+m.No != sum || sum > all {
				t.Fatal("weights", c, m)
			}
			ok := council.Votes(c, m.Act, m.Yes, m.No)
			if m.State == api.MotionPassed && !ok || m.State == api.MotionFailed && ok {
				t.Fatal(c, m, ok)
			}
			switch m.State {
			case api.MotionPassed:
				passed++
			case api.MotionFailed:
				failed++
			}
		}
	})
	if passed < 500 || failed < 500 {
		t.Error("too few motions", passed, failed)
	}
}

func TestP9_8Level(t *testing.T) {
	d := draw(98)
	grown, fallen := 0, 0
	for range 20000 {
		c := d.council()
		x := d.chance(c)
		n := council.Level(c, x)
		more := with(x, func(x *api.Chance) { x.Most += d.oneOf(0, 1, d.below(x.All)+1); x.Most = min(x.Most, x.All) })
		wider := with(x, func(x *api.Chance) { x.All += d.oneOf(0, 1, d.below(x.All)+1); x.All = min(x.All, whole) })
		sure := with(x, func(x *api.Chance) { x.Least += d.below(x.Most - x.Least + 1) })
		if council.Level(c, more) < n || council.Level(c, wider) > n || council.Level(c, sure) != n {
			t.Fatal(c, x, more, wider, sure)
		}
		if council.Level(c, more) > n {
			grown++
		}
		if council.Level(c, wider) < n {
			fallen++
		}
	}
	if grown < 1000 || fallen < 1000 {
		t.Error("too few cases", grown, fallen)
	}
}

// follows expects of a ledger that what is sent next is a changed level of what is known.
func follows(t *testing.T, before, after api.Ledger, x api.Item) bool {
	t.Helper()
	was, _ := council.Of(before, x.A)
	now, _ := council.Of(after, x.A)
	sent := after.Sent[len(before.Sent):]
	if x.Kind != api.ItemFact || was.Level == now.Level {
		if len(sent) > 0 {
			t.Fatal("sent without a change", x, sent)
		}
		return false
	}
	if !slices.Equal(sent, []api.Alarm{alarm(x.Tick, x.A, now.Level, now.Level < was.Level)}) {
		t.Fatal("not sent", x, sent)
	}
	return sent[0].Back
}

func TestP9_9Alarms(t *testing.T) {
	back := 0
	each(99, 1000, 60, func(_ *draw, c api.Council, l []api.Item) {
		var h api.House
		for n, x := range l {
			next := built(c, l[:n+1])
			before, _ := ledgers(&h, x)
			after, _ := ledgers(&next, x)
			if follows(t, *before, *after, x) {
				back++
			}
			h = next
			for _, l := range []api.Ledger{h.Real, h.Drill} {
				last := map[int]int{}
				for _, a := range l.Sent {
					if a.Back != (a.Level < last[a.Target]) || a.Level == last[a.Target] {
						t.Fatal("back", c, l)
					}
					last[a.Target] = a.Level
				}
				for _, k := range l.Facts {
					if last[k.Target] != k.Level || k.Level != council.Level(c, k.Chance) {
						t.Fatal("level", c, l, k)
					}
				}
			}
		}
	})
	if back < 300 {
		t.Error("too few alarms taken back", back)
	}
}

func TestP9_10Open(t *testing.T) {
	seen := 0
	each(910, 1500, 60, func(_ *draw, c api.Council, l []api.Item) {
		for n := range l {
			h := built(c, l[:n+1])
			for _, x := range []api.Ledger{h.Real, h.Drill} {
				for _, m := range x.Motions {
					k, ok := council.Of(x, m.Target)
					law, _ := lawFor(c, m.Act)
					if m.State == api.MotionOpen && (!ok || law.Level > k.Level) {
						t.Fatal(c, l[:n+1], m, k)
					}
					if m.State == api.MotionOpen && law.Level > 0 {
						seen++
					}
				}
			}
		}
	})
	if seen < 1000 {
		t.Error("too few motions", seen)
	}
}

// sorted is a house in which those who voted are in the order of their IDs.
func sorted(h api.House) api.House {
	h = clone(h)
	for _, m := range slices.Concat(h.Real.Motions, h.Drill.Motions) {
		slices.Sort(m.Voted)
	}
	return h
}

func TestP9_11Order(t *testing.T) {
	mixed := 0
	each(911, 6000, 60, func(d *draw, c api.Council, l []api.Item) {
		h := built(c, l)
		other := slices.Clone(l)
		for range 100 {
			n := d.below(int64(len(l) + 1))
			if n+1 < int64(len(l)) && other[n].Kind == api.ItemVote && other[n+1].Kind == api.ItemVote && other[n].Tick == other[n+1].Tick {
				other[n], other[n+1] = other[n+1], other[n]
			}
		}
		again := built(c, other)
		if !council.Same(sorted(h), sorted(again)) {
			t.Fatal(c, l, other)
		}
		if !council.Same(h, again) {
			mixed++
		}
	})
	if mixed < 300 {
		t.Error("too few cases", mixed)
	}
}

func TestP9_12Errors(t *testing.T) {
	errors := map[api.Errno]int{}
	each(912, 2000, 40, func(d *draw, c api.Council, l []api.Item) {
		n := int(d.below(int64(len(l) + 1)))
		first := built(c, l[:n])
		// What is built in two parts is what is built at once.
		if both, _, e := steps(c, first, l[n:]); e != api.OK || !council.Same(both, built(c, l)) {
			t.Fatal("two parts", c, l, n)
		}
		for range 10 {
			x := d.item(c, first)
			if _, e := step(c, first, x); e == api.OK {
				continue
			}
			h, at, e := council.Build(c, slices.Insert(slices.Clone(l), n, x))
			if e == api.OK || at != n || !council.Same(h, first) {
				t.Fatal("with an error", c, l, n, x, h, at, e)
			}
			errors[e]++
		}
	})
	if len(errors) < 8 {
		t.Error("too few errors", errors)
	}
}
