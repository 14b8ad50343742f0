package watch_test

import (
	"reflect"
	"slices"
	"testing"

	"bolide/api"
	"bolide/watch"
)

// numbers are ordinary ones, and those at and beyond each limit.
func numbers() []int64 {
	return []int64{
		0, 1, 1, 2, 3, 1, 2, 4, 5, 7, -1, -3, 10, 11, 100, 101, 400, 401, 1000, 1001, 4096, 4097, -4096, -4097, 500000, 500001, million, million + 1, 1 << 27, 1<<27 + 1,
		speed, speed + 1, place, place + 1, -place, -place - 1, end, end - 1, end + 1, slope, slope + 1, most, most - 1, least, least + 1,
	}
}

// wild are arguments of which each number may be any one.
type wild struct {
	scene
	moon          api.Moon
	budget, fails int
	chosen        []int
	readings      []api.Reading
	p             api.Vec
	a, b          api.Area
}

func wildOf(pick func() int64) wild {
	s := busy()
	s.World.Bodies[0].Mu, s.World.Bodies[1].Track[1] = pick(), at(pick(), pick())
	s.Stations[1].Off, s.Catalogs[1].Bias = at(pick(), pick()), of(-pick(), pick())
	span := func() api.Span {
		n := pick()
		return of(n, n+pick())
	}
	number := func() int { return int(pick()) }
	offer := func(kind int) api.Offer {
		return api.Offer{Kind: kind, Station: number(), Catalog: number(), Tick: pick(), Dir: at(pick(), pick()), Err: pick(), Far: pick(), Wide: pick(), Cost: number(), Sure: pick() == 1}
	}
	any := func() api.Box { return api.Box{X: span(), Y: span(), U: span(), V: span()} }
	w := wild{
		scene:  scene{s, api.Drift{Light: of(0, pick()), Heat: of(-pick(), pick()), Gas: pick()}, pick(), []api.Box{any(), any()}, plan(offer(api.SightAngle), offer(number()))},
		moon:   api.Moon{Body: number(), Glare: pick()},
		budget: number(), fails: number(), chosen: list(number()), readings: []api.Reading{{Is: number(), Value: pick()}},
		p: at(pick(), pick()), a: api.Area{X: span(), Y: span()}, b: api.Area{X: span(), Y: span()},
	}
	w.offers[0].Station, w.offers[0].Catalog, w.offers[1].Station = 1, 1, 1
	return w
}

// TestP1AllArguments calls each function with numbers of any size: none panics, and with an error there is no result.
func TestP1AllArguments(t *testing.T) {
	l := numbers()
	draw := draw(1)
	right := map[string]int{}
	for i := range 100000 {
		small := int64(len(l))
		if i%4 > 0 {
			small = 8 // mostly valid
		}
		a := wildOf(func() int64 { return l[draw.below(small)] })
		check := func(name string, isZero bool, e api.Errno) {
			if e != api.OK && !isZero {
				t.Fatal(name, a, e)
			}
			if e == api.OK {
				right[name]++
			}
		}
		check("Check", true, watch.Check(a.s, a.d, a.tick, a.set, a.offers))
		n, e := a.worst(a.chosen, a.fails)
		check("Worst", n == 0, e)
		left, e := a.left(a.chosen, a.readings)
		check("Left", len(left) == 0, e)
		best, n, e := a.best(a.moon, a.budget, a.fails)
		check("Best", len(best) == 0 && n == 0, e)
		for _, o := range a.offers {
			check("CheckOffer", true, watch.CheckOffer(a.s, o))
			v, e := watch.View(a.s, o, a.a)
			check("View", v == (api.View{}), e)
			if v.Sure && !v.May || !v.May && v.Values != of(0, 0) || v.Values.Lo > v.Values.Hi {
				t.Fatal("View", a, v)
			}
			checkOthers(t, a, o)
		}
	}
	for name, n := range right {
		if n < 100 {
			t.Error("too few right calls", name, n)
		}
	}
	if len(right) != 6 {
		t.Error(right)
	}
}

// checkOthers calls the functions that have no errors.
func checkOthers(t *testing.T, a wild, o api.Offer) {
	t.Helper()
	isValid := watch.CheckOffer(a.s, o) == api.OK
	is, isDark := watch.Field(a.s, o, a.p), watch.Dark(a.s, o, a.moon)
	values, ok := watch.Reads(a.s, o, a.p)
	if !isValid && (is || isDark || ok) || !ok && values != of(0, 0) || ok && (!is || values.Lo > values.Hi) {
		t.Fatal(a, o, is, isDark, values, ok)
	}
	if watch.Agrees(a.s, o, a.readings[0], a.p) && !isValid {
		t.Fatal("Agrees", a, o)
	}
	if watch.Apart(a.s, o, a.a, a.b) && !isValid || watch.Apart(a.s, o, a.a, a.a) {
		t.Fatal("Apart", a, o)
	}
}

// TestR4Arguments finds arguments as they were, and results that share no memory with them.
func TestR4Arguments(t *testing.T) {
	make := func() scene {
		return scene{spied(5), api.Drift{}, 0, row(5), plan(only(0), only(1), radar(), telescope())}
	}
	c := make()
	chosen, readings := list(0, 2), []api.Reading{nothing(), nothing()}
	same := func() bool {
		return reflect.DeepEqual(c, make()) && slices.Equal(chosen, list(0, 2)) && slices.Equal(readings, []api.Reading{nothing(), nothing()})
	}
	for name, f := range map[string]func() []int{
		"Left": func() []int { l, _ := c.left(chosen, readings); return l },
		"all":  func() []int { l, _ := c.left(nil, nil); return l },
		"Best": func() []int { l, _, _ := c.best(api.Moon{}, 9, 0); return l },
	} {
		got := f()
		if len(got) == 0 || !same() {
			t.Error(name, got)
		}
		again := slices.Clone(got)
		for i := range got[:cap(got)] {
			got[:cap(got)][i] = 99
		}
		if !same() {
			t.Error("shared", name)
		}
		if other := f(); !slices.Equal(other, again) {
			t.Error("another result", name)
		}
	}
	c.worst(chosen, 1)
	watch.Check(c.s, c.d, c.tick, c.set, c.offers)
	watch.View(c.s, c.offers[0], areaOf(c.set[0]))
	watch.Dark(c.s, c.offers[0], api.Moon{})
	if !same() {
		t.Error("changed")
	}
}

// TestP1Greatest plans with the greatest set, the most offers, and the most ticks, in the greatest world.
func TestP1Greatest(t *testing.T) {
	type offer = api.Offer
	s := heaven()
	s.World.Bodies = nil
	for range 8 {
		s.World.Bodies = append(s.World.Bodies, api.Body{Track: make([]api.Vec, 4096)})
	}
	c := scene{s: s, d: api.Drift{Gas: 1}, set: row(100)}
	for i := range int64(10) {
		c.offers = append(c.offers, with(upTo(1000*(i+1)), func(o *offer) { o.Tick, o.Cost = 400-i, 1 }))
	}
	if l, n, e := c.best(api.Moon{}, 1000, 3); e != api.OK || n != 100 || len(l) != 0 { // they drifted too far
		t.Error(l, n, e)
	}
	c.d.Gas = 0
	if l, n, e := c.best(api.Moon{}, 1000, 3); e != api.OK || n != 40 || len(l) != 9 { // the last offer sees all of them
		t.Error(l, n, e)
	}
	if n, e := c.worst(list(0, 1, 2, 3, 4, 5, 6, 7, 8, 9), 0); e != api.OK || n != 10 {
		t.Error(n, e)
	}
}
