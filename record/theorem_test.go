package record_test

import (
	"reflect"
	"slices"
	"testing"

	"bolide/api"
	"bolide/meet"
	"bolide/orbit"
	"bolide/record"
)

// decided is the outcome of a decision that has to be one.
func decided(t *testing.T, f api.File, n int) api.Outcome {
	t.Helper()
	o, e := record.Decide(f, n)
	if e != api.OK {
		t.Fatal(f, n, e)
	}
	return o
}

// TestP10_5Then cuts off what comes behind a decision, and puts other entries there.
func TestP10_5Then(t *testing.T) {
	d := draw(105)
	count := 0
	for range 1500 {
		s := d.story(14)
		for _, n := range decisions(s.f) {
			o := decided(t, s.f, n)
			ends := upTo(s.f, n+1)
			if decided(t, ends, n) != o {
				t.Fatal("the file that ends with it", s.f, n)
			}
			other := scene{f: ends, truth: s.truth}
			for range d.below(6) {
				other.f = with(other.f, d.entry(other))
			}
			facts, _ := record.Facts(s.f, n)
			others, _ := record.Facts(other.f, n)
			if decided(t, other.f, n) != o || !slices.Equal(facts, others) {
				t.Fatal("other entries behind", s.f, other.f, n)
			}
			count++
		}
	}
	if count < 2000 {
		t.Error("too few cases", count)
	}
}

// TestP10_6Exercises takes exercises out: the decisions that are none stay as they are.
func TestP10_6Exercises(t *testing.T) {
	d := draw(106)
	count := 0
	for range 3000 {
		f := d.story(16).f
		kept, e := record.Real(f)
		if e != api.OK || record.Check(kept) != api.OK || slices.ContainsFunc(kept.Entries, func(x api.Entry) bool { return x.Exercise }) {
			t.Fatal(f, kept, e)
		}
		if again, e := record.Real(kept); !record.Same(again, kept) || e != api.OK {
			t.Fatal("taken out twice", kept, again, e)
		}
		m := 0 // the number in the real file
		for n, x := range f.Entries {
			if x.Exercise {
				continue
			}
			y := kept.Entries[m]
			if x.Kind == api.EntryBack {
				if f.Entries[x.Back] != kept.Entries[y.Back] {
					t.Fatal("another one is withdrawn", f, kept)
				}
				y.Back = x.Back
			}
			if x != y {
				t.Fatal("another entry", f, kept, n)
			}
			if x.Kind == api.EntryDecide {
				if decided(t, f, n) != decided(t, kept, m) {
					t.Fatal("another outcome", f, kept, n)
				}
				if m < n {
					count++
				}
			}
			m++
		}
		if m != len(kept.Entries) {
			t.Fatal("more entries", f, kept)
		}
	}
	if count < 1000 {
		t.Error("too few cases", count)
	}
}

// without is a file without a fact and its withdrawal, with new numbers in the other withdrawals.
func without(f api.File, fact, back int) api.File {
	var l []api.Entry
	for i, x := range f.Entries {
		if i == fact || i == back {
			continue
		}
		if x.Kind == api.EntryBack {
			old := x.Back
			if old > fact {
				x.Back--
			}
			if old > back {
				x.Back--
			}
		}
		l = append(l, x)
	}
	f.Entries = l
	return f
}

// TestP10_7Withdrawn takes facts out that are withdrawn before decisions.
func TestP10_7Withdrawn(t *testing.T) {
	d := draw(107)
	count := 0
	for range 4000 {
		f := d.story(16).f
		for i, x := range f.Entries {
			if x.Kind != api.EntryBack {
				continue
			}
			g := without(f, x.Back, i)
			for _, n := range decisions(f) {
				if n > i {
					if decided(t, f, n) != decided(t, g, n-2) {
						t.Fatal(f, g, n)
					}
					count++
				}
			}
		}
	}
	if count < 2000 {
		t.Error("too few cases", count)
	}
}

// believable adds sights to a scene that agree with its truth, and some that do not, but are withdrawn.
func (d *draw) believable(s scene) scene {
	for range d.below(8) {
		known := d.known(s.f)
		tick := d.in(of(s.f.Tick, known))
		n := tick - s.f.Tick
		if d.chance(4) {
			s.f = with(s.f, sight(known, d.look(tick)))
			s.f = with(s.f, back(known, len(s.f.Entries)-1))
		} else if n < int64(len(s.truth)) {
			if x, ok := d.agreed(s.f.Sky, tick, at(s.truth[n].X, s.truth[n].Y)); ok {
				s.f = with(s.f, sight(known, x))
			}
		}
	}
	return s
}

// TestP10_8Truth follows truths that agree with all that is believed.
func TestP10_8Truth(t *testing.T) {
	d := draw(108)
	outs := map[int]int{}
	for range 12000 {
		s := d.scene()
		if len(s.truth) == 0 {
			continue
		}
		s = d.believable(s)
		f, known, ahead := s.f, d.known(s.f), 1+int(d.below(8))
		o, e := record.Now(f, known, ahead, false)
		n := int(known - f.Tick)
		if e != api.OK || n >= len(s.truth) {
			if e != api.OK {
				t.Fatal(f, e)
			}
			continue
		}
		if orbit.Truth(f.Sky.World, f.Drift, f.Tick, s.truth) != -1 || !orbit.In(f.Set, s.truth[0]) {
			t.Fatal("no truth", s)
		}
		outs[o.Out]++
		after := s.truth[n:min(len(s.truth), n+ahead+1)]
		hit := meet.Hit(f.Sky.World, known, after) >= 0
		isWhole := len(after) == ahead+1
		if o.Out == api.OutNone || o.Out == api.OutSafe && hit || o.Out == api.OutSure && isWhole && !hit {
			t.Fatal(s, known, ahead, o, hit)
		}
	}
	for _, out := range []int{api.OutSafe, api.OutSure, api.OutOpen} {
		if outs[out] < 150 {
			t.Error("too few cases", outs)
		}
	}
}

// TestP10_9Replay enters all decisions, and changes one outcome.
func TestP10_9Replay(t *testing.T) {
	d := draw(109)
	count := 0
	for range 2000 {
		f := entered(d.story(12).f)
		if n, e := record.Replay(f); n != -1 || e != api.OK {
			t.Fatal("entered", f, n, e)
		}
		all := decisions(f)
		if len(all) == 0 {
			continue
		}
		n := all[d.below(int64(len(all)))]
		for i, change := range []func(o *api.Outcome){
			func(o *api.Outcome) { o.Out = 1 + o.Out%5 }, func(o *api.Outcome) { o.Left++ }, func(o *api.Outcome) { o.Miss++ }, func(o *api.Outcome) { o.Hit += 2 },
		} {
			g := record.Copy(f)
			change(&g.Entries[n].Outcome)
			if m, e := record.Replay(g); m != n || e != api.OK {
				t.Fatal("changed", i, g, n, m, e)
			}
		}
		kept, _ := record.Real(f)
		if n, e := record.Replay(kept); n != -1 || e != api.OK {
			t.Fatal("without exercises", f, n, e)
		}
		count++
	}
	if count < 1000 {
		t.Error("too few cases", count)
	}
}

// TestP10_10Bytes writes files, and reads them.
func TestP10_10Bytes(t *testing.T) {
	d := draw(110)
	for range 3000 {
		f := d.story(20).f
		b, e := record.Write(f)
		g, h := record.Read(b)
		if !record.Same(g, written(f)) || e != api.OK || h != api.OK {
			t.Fatal(f, g, e, h)
		}
		n, e := record.Replay(f)
		m, h := record.Replay(g)
		again, k := record.Write(g)
		if n != m || again != b || e != api.OK || h != api.OK || k != api.OK {
			t.Fatal(f, g, n, m)
		}
		for _, n := range decisions(f) {
			if decided(t, f, n) != decided(t, g, n) {
				t.Fatal(f, g, n)
			}
		}
	}
}

// TestP10_11Enter compares the entries before and after others are entered.
func TestP10_11Enter(t *testing.T) {
	d := draw(111)
	count := 0
	for range 3000 {
		s := d.story(12)
		before := record.Copy(s.f)
		x := d.clutter(d.entry(s))
		f, e := record.Enter(s.f, x)
		if e != api.OK || !record.Same(s.f, before) || !record.Same(upTo(f, len(f.Entries)-1), before) {
			t.Fatal(s.f, x, f, e)
		}
		want := x
		if x.Kind == api.EntryDecide {
			want.Outcome, e = record.Now(s.f, x.Known, x.Ahead, x.Exercise)
			count++
		}
		if last := f.Entries[len(f.Entries)-1]; last != want || e != api.OK {
			t.Fatal(s.f, x, last, e)
		}
	}
	if count < 500 {
		t.Error("too few cases", count)
	}
}

// TestP10_11Any enters any entries into files: with an error there is no file, and otherwise a valid one.
func TestP10_11Any(t *testing.T) {
	d := draw(1111)
	errors := map[api.Errno]int{}
	for range 10000 {
		s := d.story(8)
		x := d.entry(s)
		changes := []func(){
			func() { x.Kind = int(d.below(6)) }, func() { x.Known += d.upTo(9) }, func() { x.Exercise = !x.Exercise }, func() { x.Sight.Tick += d.upTo(9) },
			func() { x.Drift.Light.Lo += d.upTo(99) }, func() { x.Back = int(d.upTo(6)) }, func() { x.Ahead = int(d.upTo(500)) }, func() {},
		}
		changes[d.below(8)]()
		f, e := record.Enter(s.f, x)
		want := record.Check(with(s.f, x))
		if x.Kind == api.EntryDecide {
			_, want = record.Now(s.f, x.Known, x.Ahead, x.Exercise)
		}
		if e != want || e != api.OK && !reflect.DeepEqual(f, api.File{}) || e == api.OK && (record.Check(f) != api.OK || len(f.Entries) != len(s.f.Entries)+1) {
			t.Fatal(s.f, x, f, e, want)
		}
		errors[e]++
	}
	for _, e := range []api.Errno{api.OK, api.ErrRange, api.ErrKind, api.ErrMissing, api.ErrOrder, api.ErrExercise} {
		if errors[e] < 30 {
			t.Error("too few cases", errors)
		}
	}
}

// TestP10_12Counts has one sight more before each decision.
func TestP10_12Counts(t *testing.T) {
	d := draw(112)
	less, fromLost := 0, 0
	for range 12000 {
		s := d.story(10)
		known, ahead := d.known(s.f), 1+int(d.below(8))
		o, e := record.Now(s.f, known, ahead, true)
		x := sight(known, d.sight(s, known))
		p, g := record.Now(with(s.f, x), known, ahead, true)
		if e != api.OK || g != api.OK {
			t.Fatal(s.f, e, g)
		}
		if o.Miss < 0 || o.Hit < 0 || o.Miss+o.Hit > o.Left || o.Left > len(s.f.Set) || o.Out == api.OutLost && o != lost() {
			t.Fatal(s.f, known, ahead, o)
		}
		if o.Out != api.OutLost && (p.Left > o.Left || p.Miss > o.Miss || p.Hit > o.Hit || p.Out == api.OutLost) {
			t.Fatal("more", s.f, x, o, p)
		}
		if p.Left < o.Left {
			less++
		}
		if o.Out == api.OutLost && p.Out != api.OutLost {
			fromLost++
		}
	}
	if less < 500 || fromLost < 20 {
		t.Error("too few cases", less, fromLost)
	}
}
