package council_test

import (
	"reflect"
	"slices"
	"testing"

	"bolide/api"
	"bolide/council"
)

// TestExamples are the rows of the chapter's examples.
func TestExamples(t *testing.T) {
	c := three()
	for _, x := range []struct {
		x    api.Chance
		want int
	}{{chance(0, 1, 1000), 1}, {chance(0, 0, 1000), 0}, {chance(5, 100, 1000), 2}, {chance(5, 99, 1000), 1}} {
		if n := council.Level(c, x.x); n != x.want {
			t.Error("Level", x, n)
		}
	}
	if !council.Votes(c, 7, 50, 10) || council.Votes(c, 7, 50, 9) || council.Votes(c, 7, 49, 51) || council.Votes(c, 8, 100, 0) {
		t.Error("Votes")
	}
	one, none := fact(1, 9, chance(0, 1, 1000)), fact(2, 9, chance(0, 0, 1000))
	h, n, e := council.Build(c, items(one))
	if k, ok := council.Of(h.Real, 9); !ok || k != (api.Known{Target: 9, Level: 1, Chance: one.Chance}) || !slices.Equal(h.Real.Sent, []api.Alarm{alarm(1, 9, 1, false)}) || n != -1 || e != api.OK {
		t.Error("a fact", h, n, e)
	}
	h, n, e = council.Build(c, items(one, none))
	if k, ok := council.Of(h.Real, 9); !ok || k != (api.Known{Target: 9, Item: 1, Chance: none.Chance}) || !slices.Equal(h.Real.Sent, []api.Alarm{alarm(1, 9, 1, false), alarm(2, 9, 0, true)}) || n != -1 || e != api.OK {
		t.Error("another one behind", h, n, e)
	}
	open := items(one, move(2, 9, 7), vote(3, 0, 1, true), vote(3, 0, 3, false))
	h, n, e = council.Build(c, then(open, closed(13, 0)))
	if m := h.Real.Motions[0]; m.State != api.MotionPassed || m.Fact != 0 || m.Yes != 50 || m.No != 20 || n != -1 || e != api.OK {
		t.Error("passed", h, n, e)
	}
	if h, n, e := council.Build(c, then(open, closed(12, 0))); n != 4 || e != api.ErrOrder || !council.Same(h, built(c, open)) {
		t.Error("early", h, n, e)
	}
	h, n, e = council.Build(c, items(one, move(2, 9, 7), fact(3, 9, chance(0, 0, 1000)), vote(4, 0, 1, true)))
	if n != 3 || e != api.ErrState || h.Real.Motions[0].State != api.MotionVoid {
		t.Error("void", h, n, e)
	}
	if h, n, e := council.Build(c, items(one, move(2, 9, 7), drill(vote(3, 0, 1, true)))); n != 2 || e != api.ErrExercise {
		t.Error("as an exercise", h, n, e)
	}
	if l, e := council.Alarms(c, items(drill(fact(1, 9, chance(0, 100, 1000))))); len(l) != 0 || e != api.OK {
		t.Error("Alarms", l, e)
	}
}

// TestDocExample are the rows of council in the document's own table of examples.
func TestDocExample(t *testing.T) {
	alarmed := items(fact(1, 9, chance(1, 1, 1000)))
	if l, e := council.Alarms(three(), alarmed); !slices.Equal(l, []api.Alarm{alarm(1, 9, 1, false)}) || e != api.OK {
		t.Error(l, e)
	}
	if l, e := council.Alarms(three(), then(alarmed, fact(2, 9, chance(0, 0, 1000)))); !slices.Equal(l, []api.Alarm{alarm(1, 9, 1, false), alarm(2, 9, 0, true)}) || e != api.OK {
		t.Error(l, e)
	}
	if l, e := council.Alarms(three(), drills(alarmed...)); len(l) != 0 || e != api.OK {
		t.Error(l, e)
	}
}

// wild are arguments of which each number may be any one.
type wild struct {
	c       api.Council
	x       api.Chance
	l       []api.Item
	ledger  api.Ledger
	tick    int64
	yes, no int64
	n       int
}

func wildOf(pick func() int64) wild {
	number := func() int { return int(pick()) }
	chances := func() api.Chance { n := pick(); return chance(pick(), n, n+pick()) }
	item := func() api.Item {
		return api.Item{Kind: number(), Tick: pick(), Drill: pick() == 2, A: number() - 1, B: number(), Yes: pick() > 1, Chance: chances()}
	}
	motion := api.Motion{Target: number(), Act: number(), Opened: pick(), State: number(), Yes: pick(), No: pick(), Voted: []int{number()}, Fact: number()}
	first, target, act, tick := number(), number(), number(), pick()
	return wild{
		c: api.Council{
			Members: []api.Member{{ID: first, Weight: pick()}, {ID: first + number(), Weight: pick()}},
			Laws:    []api.Law{{Act: act, Level: number() - 1, Window: pick(), Quorum: pick(), Share: pick()}},
			Levels:  []int64{pick()},
		},
		x:      chances(),
		l:      items(fact(0, target, chances()), move(tick, target, act), vote(tick, number()-1, first, pick() > 1), closed(tick+pick(), number()-1), item())[:uint64(pick())%6],
		ledger: api.Ledger{Items: number(), Facts: []api.Known{{Target: number(), Level: number(), Item: number(), Chance: chances()}}, Motions: []api.Motion{motion}, Sent: []api.Alarm{{Tick: pick()}}},
		tick:   pick(), yes: pick(), no: pick(), n: number() - 1,
	}
}

// extremes are ordinary numbers, and those at and beyond each limit.
func extremes() []int64 {
	return []int64{
		1, 2, 1, 3, 2, 4, 1, 0, 5, 7, 10, -1, -3, 8, 9, 64, 65, 999, 1000, 1001, 1000000000, 1000000001,
		end, end + 1, -end, heavy, heavy + 1, whole, whole + 1, -whole, most, most - 1, least, least + 1,
	}
}

// TestP1AllArguments calls each function with numbers of any size: none panics, and with an error there is no result.
func TestP1AllArguments(t *testing.T) {
	l := extremes()
	d := draw(1)
	right := map[string]int{}
	for i := range 100000 {
		small := int64(len(l))
		if i%8 > 0 {
			small = 7 // mostly valid
		}
		a := wildOf(func() int64 { return l[d.below(small)] })
		check := func(name string, isZero bool, e api.Errno) {
			if e != api.OK && !isZero {
				t.Fatal(name, a, e)
			}
			if e == api.OK {
				right[name]++
			}
		}
		valid := council.Check(a.c) == api.OK
		if n := council.Level(a.c, a.x); (n < 0) != (!valid || council.CheckChance(a.x) != api.OK) || n < -1 || n > len(a.c.Levels) {
			t.Fatal("Level", a.c, a.x, n)
		}
		if council.Votes(a.c, a.n, a.yes, a.no) && !valid {
			t.Fatal("Votes", a.c)
		}
		h, n, e := council.Build(a.c, a.l)
		check("Build", n >= 0 || equal(h, api.House{}), e)
		if valid != (n >= 0 || e == api.OK) || n >= len(a.l) || e == api.OK && n != -1 {
			t.Fatal("Build", a, n, e)
		}
		h, e = council.AsOf(a.c, a.l, a.tick)
		check("AsOf", equal(h, api.House{}), e)
		alarms, e := council.Alarms(a.c, a.l)
		check("Alarms", len(alarms) == 0, e)
		x, e := council.Why(a.c, a.l, a.n)
		check("Why", x == api.Chance{}, e)
		if k, ok := council.Of(a.ledger, a.n); !ok && k != (api.Known{}) {
			t.Fatal("Of", a, k)
		}
		if n, ok := council.Passed(a.ledger, a.n, a.n); ok != (n >= 0) {
			t.Fatal("Passed", a, n)
		}
		other := api.House{Tick: a.tick, Real: a.ledger, Drill: a.ledger}
		if !council.Same(other, clone(other)) || council.Same(other, h) {
			t.Fatal("Same", other, h)
		}
	}
	for name, n := range right {
		if n < 100 {
			t.Error("too few right calls", name, n)
		}
	}
	if len(right) != 4 {
		t.Error(right)
	}
}

// arguments are a council and items, with motions that were decided in both ledgers, and some that are open.
func arguments() (api.Council, []api.Item) {
	return lawful(), then(known(),
		drill(fact(2, 9, at(1))), drill(fact(2, 5, at(2))),
		move(4, 9, 7), vote(6, 0, 1, true), vote(6, 0, 3, true),
		move(6, 5, 7), move(6, 9, 5), vote(7, 1, 1, true), vote(7, 2, 2, false), vote(7, 1, 3, true),
		drill(move(7, 9, 7)), drill(move(7, 5, 8)), drill(vote(7, 0, 2, true)), drill(vote(7, 1, 2, true)),
		closed(16, 0), drill(fact(17, 9, at(0))),
	)
}

// spoil overwrites a list, up to its capacity.
func spoil[T any](l []T, with T) {
	for i := range l[:cap(l)] {
		l[:cap(l)][i] = with
	}
}

// spoilers overwrite one list of a house each.
func spoilers(h api.House) []func(*api.House) {
	var l []func(*api.House)
	for _, own := range []func(*api.House) *api.Ledger{
		func(h *api.House) *api.Ledger { return &h.Real },
		func(h *api.House) *api.Ledger { return &h.Drill },
	} {
		l = append(l,
			func(h *api.House) { spoil(own(h).Facts, api.Known{Target: 99}) },
			func(h *api.House) { spoil(own(h).Motions, api.Motion{Target: 99}) },
			func(h *api.House) { spoil(own(h).Sent, api.Alarm{Target: 99}) },
		)
		for i := range own(&h).Motions {
			l = append(l, func(h *api.House) { spoil(own(h).Motions[i].Voted, 99) })
		}
	}
	return l
}

// TestR4Arguments finds arguments as they were, and results that share no memory with them, or with each other.
func TestR4Arguments(t *testing.T) {
	c, l := arguments()
	same := func() bool {
		k, m := arguments()
		return reflect.DeepEqual(c, k) && reflect.DeepEqual(l, m)
	}
	want := after(c, l)
	as := func() api.House { h, _ := council.AsOf(c, l, end); return h }
	broken := func() api.House { h, _, _ := council.Build(c, then(l, api.Item{})); return h }
	whole := func() api.House { return built(c, l) }
	all := spoilers(want)
	if len(all) != 11 {
		t.Fatal(len(all))
	}
	for i, build := range []func() api.House{whole, as, broken} {
		for n, spoil := range all {
			h := build()
			spoilt := clone(h)
			spoil(&h)
			spoil(&spoilt) // here no list shares memory with another one
			if !equal(h, spoilt) || equal(h, want) || !equal(build(), want) || !same() {
				t.Fatal(i, n, h, spoilt)
			}
		}
	}
	sent, _ := council.Alarms(c, l)
	spoil(sent, api.Alarm{Target: 99})
	council.Why(c, l, 0)
	council.Level(c, at(1))
	council.Votes(c, 7, 50, 10)
	if again, _ := council.Alarms(c, l); len(sent) == 0 || !slices.Equal(again, want.Real.Sent) || !same() {
		t.Error(again)
	}
	h := whole()
	c.Members[0].Weight, c.Laws[0].Level, c.Levels[0] = 1, 1, 1
	spoil(l, api.Item{})
	if !equal(h, want) {
		t.Error("the arguments changed later", h)
	}
	read := clone(h)
	council.Of(h.Real, 9)
	council.Passed(h.Real, 9, 7)
	council.Same(h, read)
	if !equal(h, read) {
		t.Error("changed", h)
	}
}
