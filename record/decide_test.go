package record_test

import (
	"slices"
	"testing"

	"bolide/api"
	"bolide/record"
)

func TestP10_1Facts(t *testing.T) {
	o := lost()
	for i, c := range []struct {
		l    []api.Entry
		n    int
		want []int
	}{
		{[]api.Entry{exampleA(), exampleD(), exampleB(), later(exampleD(), 6)}, 1, []int{0}},
		{[]api.Entry{exampleA(), exampleD(), exampleB(), later(exampleD(), 6)}, 3, nil},
		{[]api.Entry{decide(0, 1, o)}, 0, nil},
		{[]api.Entry{decide(5, 1, o), exampleA(), drift(5, api.Drift{})}, 0, nil},
		{[]api.Entry{exampleA(), drift(5, api.Drift{}), decide(5, 1, o), exampleA(), decide(5, 1, o)}, 2, []int{0, 1}},
		{[]api.Entry{exampleA(), drift(5, api.Drift{}), decide(5, 1, o), exampleA(), decide(5, 1, o)}, 4, []int{0, 1, 3}},
		{[]api.Entry{exampleA(), drift(5, api.Drift{}), back(5, 1), exampleA(), decide(5, 1, o)}, 4, []int{0, 3}},
		{[]api.Entry{exampleA(), drift(5, api.Drift{}), decide(5, 1, o), back(5, 0), back(5, 1)}, 2, []int{0, 1}},
		{[]api.Entry{drill(exampleA()), exampleA(), drill(drift(5, api.Drift{})), drift(5, api.Drift{}), decide(5, 1, o)}, 4, []int{1, 3}},
		{[]api.Entry{drill(exampleA()), exampleA(), drill(drift(5, api.Drift{})), drift(5, api.Drift{}), drill(decide(5, 1, o))}, 4, []int{0, 1, 2, 3}},
		{[]api.Entry{drill(exampleA()), exampleA(), drill(back(5, 0)), drill(decide(5, 1, o)), decide(5, 1, o)}, 3, []int{1}},
		{[]api.Entry{drill(exampleA()), exampleA(), drill(back(5, 0)), back(5, 1), drill(decide(5, 1, o))}, 4, nil},
		{[]api.Entry{drill(decide(5, 1, o)), drill(exampleA()), drill(decide(5, 1, o))}, 2, []int{1}},
	} {
		if l, e := record.Facts(with(example(), c.l...), c.n); !slices.Equal(l, c.want) || e != api.OK {
			t.Error(i, l, e)
		}
	}
}

// TestP10_1Missing asks for what is no decision.
func TestP10_1Missing(t *testing.T) {
	for n := range 12 {
		_, e := record.Facts(full(), n)
		_, f := record.Decide(full(), n)
		want := api.ErrMissing
		if n == 3 || n == 4 || n == 9 {
			want = api.OK
		}
		if e != want || f != want {
			t.Error(n, e, f)
		}
	}
	for _, n := range []int{-1, -3, 10, int(least), int(most)} {
		l, e := record.Facts(full(), n)
		o, f := record.Decide(full(), n)
		if e != api.ErrMissing || f != api.ErrMissing || len(l) > 0 || o != (api.Outcome{}) {
			t.Error(n, l, o, e, f)
		}
		if _, e := record.Facts(example(), n); e != api.ErrMissing {
			t.Error(n, e)
		}
	}
}

// flying is a file with one box of one state, a tick before it is beyond the limits.
func flying() api.File {
	f := example()
	f.Set = boxes(alone(place-10, 0, 10, 0))
	return f
}

// windy is a drift with a gas that spoils all that is known.
func windy() api.Drift { return api.Drift{Gas: 50} }

// TestP10_1Outcomes has one outcome of each kind.
func TestP10_1Outcomes(t *testing.T) {
	f := example()
	both := boxes(alone(100, 0, -10, 0), alone(100, 5, -10, 0))
	for i, c := range []struct {
		set   []api.Box
		known int64
		ahead int
		l     []api.Entry
		want  api.Outcome
	}{
		{f.Set, 5, 10, nil, outcome(api.OutOpen, 2, 1, 1)},
		{f.Set, 5, 10, []api.Entry{exampleA()}, outcome(api.OutSure, 1, 0, 1)},
		{f.Set, 5, 10, []api.Entry{sight(5, distance(4, 61, 100))}, outcome(api.OutSafe, 1, 1, 0)},
		{f.Set, 5, 10, []api.Entry{sight(5, distance(4, 0, 59))}, outcome(api.OutNone, 0, 0, 0)},
		{nil, 5, 10, nil, outcome(api.OutNone, 0, 0, 0)},
		{both, 5, 10, nil, outcome(api.OutSure, 2, 0, 2)},
		{f.Set[1:], 5, 10, nil, outcome(api.OutSafe, 1, 1, 0)},
		// The first box comes to 10 0 at the tick 9, and is at -10 0 at the tick 11.
		{f.Set, 0, 8, nil, outcome(api.OutSafe, 2, 2, 0)},
		{f.Set, 0, 9, nil, outcome(api.OutOpen, 2, 1, 1)},
		{f.Set, 8, 1, nil, outcome(api.OutOpen, 2, 1, 1)},
		{f.Set, 7, 1, nil, outcome(api.OutSafe, 2, 2, 0)},
		{f.Set, 11, 1, nil, outcome(api.OutOpen, 2, 1, 1)},
		{f.Set, 12, 400, nil, outcome(api.OutSafe, 2, 2, 0)},
		{f.Set, 400, 400, nil, outcome(api.OutSafe, 2, 2, 0)},
		// A sight at the first tick, and one at the last tick.
		{f.Set, 5, 10, []api.Entry{sight(5, distance(0, 0, 100))}, outcome(api.OutSure, 1, 0, 1)},
		{f.Set, 5, 10, []api.Entry{sight(5, distance(5, 0, 50))}, outcome(api.OutSure, 1, 0, 1)},
		{f.Set, 0, 10, []api.Entry{sight(0, distance(0, 0, 100))}, outcome(api.OutSure, 1, 0, 1)},
		// Two sights, each of which takes one out.
		{f.Set, 5, 10, []api.Entry{exampleA(), sight(5, distance(3, 71, 100))}, outcome(api.OutNone, 0, 0, 0)},
		// The drift of the last one counts, for the set and for its fates.
		{f.Set, 0, 10, []api.Entry{drift(0, windy())}, outcome(api.OutOpen, 2, 0, 0)},
		{f.Set, 0, 10, []api.Entry{drift(0, windy()), drift(0, api.Drift{})}, outcome(api.OutOpen, 2, 1, 1)},
		{f.Set, 0, 10, []api.Entry{drift(0, api.Drift{}), drift(0, windy())}, outcome(api.OutOpen, 2, 0, 0)},
		{f.Set, 0, 10, []api.Entry{drift(0, api.Drift{}), drift(0, windy()), back(0, 1)}, outcome(api.OutOpen, 2, 1, 1)},
		{f.Set, 0, 10, []api.Entry{drift(0, windy()), drift(0, api.Drift{}), back(0, 1)}, outcome(api.OutOpen, 2, 0, 0)},
		{f.Set, 0, 10, []api.Entry{drill(drift(0, windy()))}, outcome(api.OutOpen, 2, 1, 1)},
		// With the gas, what is seen at the tick 4 may be anywhere.
		{f.Set, 5, 10, []api.Entry{exampleA(), drift(5, windy())}, outcome(api.OutOpen, 2, 0, 0)},
		{flying().Set, 2, 10, nil, lost()},
		{flying().Set, 1, 10, nil, outcome(api.OutOpen, 1, 0, 0)}, // lost in the first passage
		{append(slices.Clone(f.Set), flying().Set...), 2, 10, nil, lost()},
		{append(slices.Clone(f.Set), flying().Set...), 2, 10, []api.Entry{sight(2, distance(1, 0, 100))}, outcome(api.OutOpen, 2, 1, 1)},
		{append(slices.Clone(f.Set), flying().Set...), 2, 10, []api.Entry{sight(2, distance(2, 0, 100))}, lost()},
		{flying().Set, 2, 10, []api.Entry{sight(2, distance(1, 0, 100))}, outcome(api.OutNone, 0, 0, 0)},
	} {
		g := with(api.File{Sky: f.Sky, Set: c.set}, c.l...)
		if o, e := record.Now(g, c.known, c.ahead, false); o != c.want || e != api.OK {
			t.Error(i, "Now", o, e)
		}
		for _, says := range []api.Outcome{lost(), c.want, outcome(api.OutSafe, 512, 0, 9)} {
			if o, e := record.Decide(with(g, decide(c.known, c.ahead, says)), len(c.l)); o != c.want || e != api.OK {
				t.Error(i, "Decide", o, e)
			}
		}
	}
}

// TestP10_1File has the drift and the tick of the file.
func TestP10_1File(t *testing.T) {
	f := example()
	f.Drift = windy()
	if o, e := record.Now(f, 0, 10, false); o != outcome(api.OutOpen, 2, 0, 0) || e != api.OK {
		t.Error(o, e)
	}
	if o, e := record.Now(with(f, drift(0, api.Drift{})), 0, 10, false); o != outcome(api.OutOpen, 2, 1, 1) || e != api.OK {
		t.Error(o, e)
	}
	if o, e := record.Now(with(f, drift(0, api.Drift{}), back(0, 0)), 0, 10, false); o != outcome(api.OutOpen, 2, 0, 0) || e != api.OK {
		t.Error(o, e)
	}
	f = example()
	f.Tick = end - 800
	f.Entries = []api.Entry{sight(f.Tick+5, distance(f.Tick+4, 0, 65))}
	if o, e := record.Now(f, f.Tick+5, 10, false); o != outcome(api.OutSure, 1, 0, 1) || e != api.OK {
		t.Error(o, e)
	}
	if o, e := record.Now(f, f.Tick+400, 400, false); o != outcome(api.OutSafe, 1, 1, 0) || e != api.OK {
		t.Error(o, e)
	}
	f.Sky.World.Bodies[0].Track = []api.Vec{at(-1000, -1000), at(0, 0)} // Home is far away at the tick of the sight
	if o, e := record.Now(f, f.Tick+5, 10, false); o.Out != api.OutNone || e != api.OK {
		t.Error(o, e)
	}
}

// TestP10_1Exercises has exercises that say something else.
func TestP10_1Exercises(t *testing.T) {
	f := with(example(), drill(exampleA()), decide(5, 10, lost()), drill(decide(5, 10, lost())), drill(back(6, 0)), drill(decide(6, 10, lost())))
	open, sure := outcome(api.OutOpen, 2, 1, 1), outcome(api.OutSure, 1, 0, 1)
	for n, want := range map[int]api.Outcome{1: open, 2: sure, 4: open} {
		if o, e := record.Decide(f, n); o != want || e != api.OK {
			t.Error(n, o, e)
		}
	}
	f = with(example(), exampleA(), drill(drift(5, windy())))
	if o, e := record.Now(f, 5, 10, false); o != sure || e != api.OK {
		t.Error(o, e)
	}
	if o, e := record.Now(f, 5, 10, true); o != outcome(api.OutOpen, 2, 0, 0) || e != api.OK {
		t.Error(o, e)
	}
}

// TestP10_1Model holds Facts and Decide against the chapter's words, written anew.
func TestP10_1Model(t *testing.T) {
	d := draw(1011)
	outs, facts := map[int]int{}, 0
	for range 4000 {
		f := d.story(16).f
		for _, n := range decisions(f) {
			l, e := record.Facts(f, n)
			o, g := record.Decide(f, n)
			if !slices.Equal(l, modelFacts(f, n)) || o != modelOutcome(f, n) || e != api.OK || g != api.OK {
				t.Fatal(f, n, l, o, e, g)
			}
			outs[o.Out]++
			facts += len(l)
		}
	}
	for out := 1; out <= 5; out++ {
		if outs[out] < 100 {
			t.Error("too few cases", outs)
		}
	}
	if len(outs) != 5 || facts < 5000 {
		t.Error(outs, facts)
	}
}

func TestP10_2Now(t *testing.T) {
	f := example()
	f.Tick = 3
	late := with(f, drill(later(exampleA(), 9)), drift(9, api.Drift{}))
	for i, c := range []struct {
		f     api.File
		known int64
		ahead int
		e     api.Errno
	}{
		{f, 2, 1, api.ErrRange}, {f, 3, 1, api.OK}, {f, 403, 1, api.OK}, {f, 404, 1, api.ErrRange}, {f, least, 1, api.ErrRange}, {f, most, 1, api.ErrRange},
		{f, 3, 0, api.ErrRange}, {f, 3, 400, api.OK}, {f, 3, 401, api.ErrRange}, {f, 3, -1, api.ErrRange}, {f, 3, int(least), api.ErrRange}, {f, 3, int(most), api.ErrRange},
		{late, 8, 1, api.ErrOrder}, {late, 9, 1, api.OK}, {late, 10, 1, api.OK}, {late, 3, 1, api.ErrOrder},
		{late, 8, 0, api.ErrRange}, {late, 8, 401, api.ErrRange}, {late, 2, 1, api.ErrRange}, {late, 404, 1, api.ErrRange},
		{with(f, drill(later(exampleA(), 9))), 8, 1, api.ErrOrder}, // also behind an exercise
		{upTo(late, 0), 3, 1, api.OK},
	} {
		for _, exercise := range []bool{false, true} {
			o, e := record.Now(c.f, c.known, c.ahead, exercise)
			if e != c.e || (e == api.OK) != (o != api.Outcome{}) {
				t.Error(i, o, e)
			}
		}
	}
	bad := spoilt(faults()[0])
	if _, e := record.Now(bad, -1, 0, false); e != api.ErrShort {
		t.Error("Check's error comes first", e)
	}
	crowded := with(example(), slices.Repeat([]api.Entry{drift(2, api.Drift{})}, 60)...)
	if o, e := record.Now(crowded, 5, 10, false); o != outcome(api.OutOpen, 2, 1, 1) || e != api.OK {
		t.Error("60 entries", o, e)
	}
}

// TestP10_2Next holds Now against Decide in the file that has this decision.
func TestP10_2Next(t *testing.T) {
	d := draw(1021)
	for range 3000 {
		f := d.story(12).f
		known, ahead, exercise := d.known(f), 1+int(d.below(9)), d.chance(2)
		next := decide(known, ahead, lost())
		next.Exercise = exercise
		o, e := record.Now(f, known, ahead, exercise)
		want, g := record.Decide(with(f, next), len(f.Entries))
		if o != want || o != modelOutcome(with(f, next), len(f.Entries)) || e != api.OK || g != api.OK {
			t.Fatal(f, next, o, want, e, g)
		}
	}
}

func TestP10_3Replay(t *testing.T) {
	sure, open := outcome(api.OutSure, 1, 0, 1), outcome(api.OutOpen, 2, 1, 1)
	for i, c := range []struct {
		l    []api.Entry
		want int
	}{
		{nil, -1}, {[]api.Entry{exampleA()}, -1}, {[]api.Entry{exampleA(), exampleD()}, -1},
		{[]api.Entry{exampleA(), decide(5, 10, open)}, 1},
		{[]api.Entry{exampleA(), decide(5, 10, outcome(api.OutSafe, 1, 0, 1))}, 1},
		{[]api.Entry{exampleA(), decide(5, 10, outcome(api.OutSure, 2, 0, 1))}, 1},
		{[]api.Entry{exampleA(), decide(5, 10, outcome(api.OutSure, 1, 1, 1))}, 1},
		{[]api.Entry{exampleA(), decide(5, 10, outcome(api.OutSure, 1, 0, 0))}, 1},
		{[]api.Entry{decide(5, 10, sure), exampleA(), decide(5, 10, open)}, 0},
		{[]api.Entry{decide(5, 10, open), exampleA(), decide(5, 10, open)}, 2},
		{[]api.Entry{decide(5, 10, open), exampleA(), decide(5, 10, sure), back(6, 1), decide(6, 10, open)}, -1},
		{[]api.Entry{decide(5, 10, open), exampleA(), decide(5, 10, sure), back(6, 1), decide(6, 10, sure)}, 4},
		{[]api.Entry{drill(exampleA()), decide(5, 10, open), drill(decide(5, 10, sure))}, -1},
		{[]api.Entry{drill(exampleA()), decide(5, 10, open), drill(decide(5, 10, open))}, 2},
		{[]api.Entry{drill(exampleA()), decide(5, 10, sure), drill(decide(5, 10, open))}, 1},
	} {
		if n, e := record.Replay(with(example(), c.l...)); n != c.want || e != api.OK {
			t.Error(i, n, e)
		}
	}
	if n, e := record.Replay(with(flying(), decide(2, 1, lost()))); n != -1 || e != api.OK {
		t.Error(n, e)
	}
	d := draw(103)
	found := map[bool]int{}
	for range 3000 {
		f := d.story(8).f
		want := -1
		for _, n := range decisions(f) {
			if d.chance(2) {
				f.Entries[n].Outcome = modelOutcome(f, n)
			}
			if want < 0 && f.Entries[n].Outcome != modelOutcome(f, n) {
				want = n
			}
		}
		if n, e := record.Replay(f); n != want || e != api.OK {
			t.Fatal(f, n, want, e)
		}
		found[want >= 0]++
	}
	if found[true] < 500 || found[false] < 500 {
		t.Error("too few cases", found)
	}
}
