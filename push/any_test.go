package push_test

import (
	"reflect"
	"slices"
	"testing"

	"bolide/api"
	"bolide/push"
)

// TestExamples are the rows of the chapter's examples.
func TestExamples(t *testing.T) {
	w, a := world(), area(100, 104, -20, -20)
	if s, e := push.Speeds(w, impactor(), a); s != area(10, 11, -2, -2) || e != api.OK || !push.Reaches(w, impactor(), a, 11) || push.Reaches(w, impactor(), a, 10) {
		t.Error("Speeds", s, e)
	}
	if a, e := push.Does(w, impactor(), mass(), 10, rock()); a != area(10, 15, -1, 0) || e != api.OK {
		t.Error("Does I", a, e)
	}
	if a, e := push.Does(w, impactor(), mass(), 9, rock()); a != (api.Area{}) || e != api.OK {
		t.Error("Does I at 9", a, e)
	}
	if a, e := push.Does(w, charge(), mass(), 10, rock()); a != area(0, 0, 1, 2) || e != api.OK {
		t.Error("Does C", a, e)
	}
	if b, e := push.Push(w, missions(impactor(), charge()), mass(), 10, rock()); b != box(100, 100, -20, -20, -30, -25, 0, 2) || e != api.OK {
		t.Error("Push", b, e)
	}
	c := failing(2, impactor(), charge(), reserve(impactor()))
	if l := push.Failures(c); !equal(l, lists(nil, list(0), list(1), list(0, 1), list(0, 2), list(1, 2))) {
		t.Error("Failures", l)
	}
	for _, x := range [][2][]int{{nil, list(0, 1)}, {list(0), list(1, 2)}, {list(0, 2), list(1)}} {
		if l := push.Working(c, x[0]); !slices.Equal(l, x[1]) {
			t.Error("Working", x[0], l)
		}
	}
	s := scene{w: w, tick: 8, set: boxes(one(120, 0, -10, 0)), c: campaign()}
	if v, e := s.verify(); !same(v, because(api.WhyHit, nil, 0, 18)) || e != api.OK {
		t.Error("Verify", v, e)
	}
	s = scene{w: w, set: boxes(one(100, 0, -5, 0))}
	if l, e := s.windows(0, 20, 10); !slices.Equal(l, []int64{4, 5, 6, 7, 8, 9, 10}) || e != api.OK {
		t.Error("Windows", l, e)
	}
}

// numbers are ordinary ones, and those at and beyond each limit.
func numbers() []int64 {
	return []int64{
		1, 2, 1, 3, 2, 0, 4, 10, 5, 1000, 2000, 100, -1, -3, 101, 400, 401, 1001, 4096, 4097, -4096, -4097, 10000, 10001,
		speed, speed + 1, -speed - 1, place, place + 1, -place, -place - 1, far, far + 1, end, end - 1, end + 1, heavy, heavy + 1, num, num + 1, -num, most, most - 1, least, least + 1,
	}
}

// wild are arguments of which each number may be any one.
type wild struct {
	scene
	m            api.Mission
	a            api.Area
	p, next      api.State
	launch, fast int64
	ticks        int
	failed       []int
	options      []api.Campaign
	parts        [][]int
}

func wildOf(pick func() int64) wild {
	span := func() api.Span {
		n := pick()
		return of(n, n+pick())
	}
	above := func(least int64) api.Span { return of(least, least+pick()) }
	number := func() int { return int(pick()) }
	mission := func(kind int) api.Mission {
		n := pick()
		return api.Mission{Kind: kind, Launch: n - 1, Arrive: n + pick(), For: number(), Mass: span(), Power: span(), Mult: above(1000), Dir: at(pick(), pick()), Reserve: pick() > 2, Cost: number()}
	}
	any := func() api.Box { return api.Box{X: span(), Y: span(), U: span(), V: span()} }
	campaign := func() api.Campaign {
		return api.Campaign{
			Missions: missions(mission(1+number()%4), mission(number())), Body: span(), Fast: pick(), Fails: number(), Miss: pick(), Ticks: number(),
			Keys: []api.Keyhole{{Tick: pick(), Line: span()}},
		}
	}
	w := moving()
	w.Bodies[0].Mu, w.Bodies[1].Radius, w.Bodies[1].Track[1] = pick(), pick(), at(pick(), pick())
	return wild{
		scene: scene{w, api.Drift{Light: of(0, pick()), Heat: of(-pick(), pick()), Gas: pick()}, pick(), boxes(any(), any()), campaign()},
		m:     mission(number()), a: api.Area{X: span(), Y: span()}, p: state(pick(), pick(), pick(), pick()), next: state(pick(), pick(), pick(), pick()),
		launch: pick(), fast: pick(), ticks: number(), failed: list(number()-1, number()), options: options(campaign()), parts: lists(list(number()-1), list(0, number()-1)),
	}
}

// TestP1AllArguments calls each function with numbers of any size: none panics, and with an error there is no result.
func TestP1AllArguments(t *testing.T) {
	l := numbers()
	draw := draw(1)
	right := map[string]int{}
	for i := range 60000 {
		small := int64(len(l))
		if i%8 > 0 {
			small = 5 // mostly valid
		}
		a := wildOf(func() int64 { return l[draw.below(small)] })
		check := func(name string, isZero bool, e api.Errno) {
			if e != api.OK && !isZero {
				t.Fatal(name, a, e)
			}
			if e == api.OK {
				right[name]++
			}
		}
		check("CheckMission", true, push.CheckMission(a.m))
		check("Check", true, push.Check(a.c))
		speeds, e := push.Speeds(a.w, a.m, a.a)
		check("Speeds", speeds == (api.Area{}), e)
		if push.Reaches(a.w, a.m, a.a, a.fast) && e != api.OK {
			t.Fatal("Reaches", a)
		}
		does, e := push.Does(a.w, a.m, a.c.Body, a.tick, a.set[0])
		check("Does", does == (api.Area{}), e)
		if does.X.Lo > does.X.Hi || does.Y.Lo > does.Y.Hi {
			t.Fatal("Does", a, does)
		}
		pushed, e := push.Push(a.w, a.c.Missions, a.c.Body, a.tick, a.set[0])
		check("Push", pushed == (api.Box{}), e)
		push.Pushed(a.w, a.c.Missions, a.c.Body, a.tick, a.p, a.next)
		if sets := push.Failures(a.c); (len(sets) == 0) != (push.Check(a.c) != api.OK) {
			t.Fatal("Failures", a.c, sets)
		}
		push.Working(a.c, a.failed)
		v, e := a.verify()
		check("Verify", same(v, api.Verdict{}), e)
		n, e := a.choose(a.options)
		check("Choose", n == 0, e)
		together, apart, e := a.worth(a.options, a.parts)
		check("Worth", together == 0 && apart == 0, e)
		open, e := a.windows(a.launch, a.fast, a.ticks)
		check("Windows", len(open) == 0, e)
	}
	for name, n := range right {
		if n < 100 {
			t.Error("too few right calls", name, n)
		}
	}
	if len(right) != 9 {
		t.Error(right)
	}
}

// arguments are valid ones for all functions.
func arguments() (scene, []api.Campaign, [][]int) {
	s := scene{moving(), api.Drift{Gas: 1}, 1, boxes(one(500, 300, -10, 0), one(-400, 5, 0, 3)), failing(2, make6()[2:]...)}
	s.c.Keys = []api.Keyhole{hole(3, 1, 2), hole(2, 3, 4)}
	return s, options(s.c, campaign(impactor())), lists(list(0, 1), list(1))
}

// TestR4Arguments finds arguments as they were, and results that share no memory with them, or with each other.
func TestR4Arguments(t *testing.T) {
	s, options, parts := arguments()
	failed := list(0)
	same := func() bool {
		c, o, p := arguments()
		return reflect.DeepEqual(s, c) && reflect.DeepEqual(options, o) && reflect.DeepEqual(parts, p) && slices.Equal(failed, list(0))
	}
	spoil := func(l []int) {
		for i := range l[:cap(l)] {
			l[:cap(l)][i] = 99
		}
	}
	sets := push.Failures(s.c)
	for i := range sets {
		for j := i + 1; j < len(sets); j++ {
			before := slices.Clone(sets[j])
			spoil(sets[i])
			if !slices.Equal(sets[j], before) {
				t.Fatal("shared", i, j)
			}
		}
	}
	if len(sets) < 5 || !equal(push.Failures(s.c), failuresOf(s.c)) || !same() {
		t.Error("Failures", sets)
	}
	l := push.Working(s.c, failed)
	spoil(l)
	if again := push.Working(s.c, failed); len(l) == 0 || !slices.Equal(again, workingOf(s.c, failed)) || !same() {
		t.Error("Working", again)
	}
	coming := scene{w: world(), set: boxes(coming(0)), c: but(against(aside(1, 9), aside(2, 9)), func(c *api.Campaign) { c.Fails = 2 })}
	v, _ := coming.verify()
	spoil(v.Failed)
	if again, _ := coming.verify(); len(v.Failed) != 2 || !slices.Equal(again.Failed, list(0, 1)) {
		t.Error("Verify", v, again)
	}
	open, e := s.windows(0, 1000, 5)
	for i := range open {
		open[i] = 99
	}
	if again, _ := s.windows(0, 1000, 5); len(open) == 0 || e != api.OK || slices.Equal(open, again) || !same() {
		t.Error("Windows", open, e)
	}
	s.verify()
	s.choose(options)
	s.worth(options, parts)
	push.Push(s.w, s.c.Missions, s.c.Body, 10, s.set[0])
	push.Pushed(s.w, s.c.Missions, s.c.Body, 10, state(1, 2, 3, 4), state(1, 2, 3, 4))
	if !same() {
		t.Error("changed")
	}
}

// greatest is a campaign of the most missions and failures against the greatest set, for the most ticks, in the greatest world.
func greatest() scene {
	s := scene{d: api.Drift{Heat: of(-1, 1)}, tick: 100}
	for range 8 {
		s.w.Bodies = append(s.w.Bodies, api.Body{Radius: 1, Track: make([]api.Vec, 4096)})
	}
	tractor := with(tractor(), func(m *api.Mission) { m.Arrive, m.For = 150, 100 })
	s.c = but(failing(3, tractor, tractor, tractor, tractor, tractor, tractor), func(c *api.Campaign) {
		c.Fast, c.Ticks, c.Keys = speed, 400, slices.Repeat([]api.Keyhole{hole(1, 0, 0)}, 40)
	})
	for i := range int64(40) {
		s.set = append(s.set, one(1000+i, 1000, 1, 0))
	}
	return s
}

// TestP1Greatest verifies the greatest campaign, which is safe: nothing ends the search before all was looked at.
func TestP1Greatest(t *testing.T) {
	s := greatest()
	if v, e := s.verify(); !v.Safe || e != api.OK {
		t.Error(v, e)
	}
	if l, e := s.windows(0, speed, 400); len(l) != 401 || e != api.OK {
		t.Error(len(l), e)
	}
}
