package meet_test

import (
	"testing"

	"bolide/api"
	"bolide/meet"
	"bolide/span"
)

// broken are worlds that are not valid: without bodies, with a mass below 0, without a track, and without Home.
func broken() []api.World {
	w := world()
	mass := api.World{Bodies: []api.Body{{Mu: -1, Track: []api.Vec{at(0, 0)}}}}
	return []api.World{{}, mass, {Bodies: []api.Body{{}}}, {Bodies: w.Bodies, Home: 2}, {Bodies: w.Bodies, Home: -1}}
}

func TestP5_1Relative(t *testing.T) {
	w := world()
	for i, c := range []struct {
		tick int64
		p    api.Vec
		want api.Vec
		ok   bool
	}{
		{2, at(110, 5), at(-10, 5), true},
		{0, at(110, 5), at(10, 5), true},
		{1, at(110, 5), at(10, 5), true},
		{5, at(-3, -7), at(-123, -7), true},
		{end, at(0, 0), at(-100, 0), true}, // 2^30 is 1 modulo 3
		{end + 1, at(0, 0), at(0, 0), false},
		{-1, at(0, 0), at(0, 0), false},
		{least, at(0, 0), at(0, 0), false},
		{most, at(0, 0), at(0, 0), false},
		{0, at(place, -place), at(place-100, -place), true},
		{0, at(-place, place), at(-place-100, place), true},
		{0, at(place+1, 0), at(0, 0), false},
		{0, at(-place-1, 0), at(0, 0), false},
		{0, at(0, place+1), at(0, 0), false},
		{0, at(0, -place-1), at(0, 0), false},
		{0, at(least, most), at(0, 0), false},
	} {
		if p, ok := meet.Relative(w, c.tick, c.p); p != c.want || ok != c.ok {
			t.Error(i, p, ok)
		}
	}
	for i, w := range broken() {
		if p, ok := meet.Relative(w, 0, at(1, 2)); p != at(0, 0) || ok {
			t.Error("not valid", i, p, ok)
		}
	}
}

func TestP5_1Within(t *testing.T) {
	w := world()
	s, next := state(0, 0, 90, 0), state(90, 0, 90, 0)
	for i, c := range []struct {
		tick    int64
		s, next api.State
		r       int64
		want    bool
	}{
		{0, s, next, 10, true},
		{0, s, next, 9, false},
		{1, s, next, 30, true}, // Home goes away, to (120, 0)
		{1, s, next, 29, false},
		{2, state(100, 9, 0, 0), state(100, 9, 0, 0), 9, true}, // Home comes from (120, 0) to (100, 0)
		{2, state(100, 9, 0, 0), state(100, 9, 0, 0), 8, false},
		{3, s, next, 10, true},
		{0, state(0, 3, 0, 0), state(200, 3, 0, 0), 3, true}, // not a possible successor
		{0, state(0, 3, 0, 0), state(200, 3, 0, 0), 2, false},
		{0, state(100, 0, 0, 0), state(100, 0, 0, 0), 0, true},
		{0, state(100, 0, 0, 0), state(place, place, speed, -speed), 0, true},
		{0, s, next, far, true},
		{0, s, next, far + 1, false},
		{0, s, next, -1, false},
		{0, state(100, 0, 0, 0), next, -1, false},
		{0, s, next, most, false},
		{0, s, next, least, false},
		{-1, s, next, far, false},
		{end - 1, s, next, far, true},
		{end, s, next, far, false},
		{most, s, next, far, false},
		{least, s, next, far, false},
		{0, state(place+1, 0, 0, 0), next, far, false},
		{0, state(0, -place-1, 0, 0), next, far, false},
		{0, state(0, 0, speed+1, 0), next, far, false},
		{0, state(0, 0, 0, -speed-1), next, far, false},
		{0, s, state(-place-1, 0, 0, 0), far, false},
		{0, s, state(0, place+1, 0, 0), far, false},
		{0, s, state(0, 0, -speed-1, 0), far, false},
		{0, s, state(0, 0, 0, speed+1), far, false},
	} {
		if got := meet.Within(w, c.tick, c.s, c.next, c.r); got != c.want {
			t.Error(i, got)
		}
	}
	for i, w := range broken() {
		if meet.Within(w, 0, s, next, far) {
			t.Error("not valid", i)
		}
	}
}

func TestP5_1WithinRandom(t *testing.T) {
	d := draw(511)
	count := map[bool]int{}
	for range 20000 {
		s := d.scene(0)
		a, b, r := state(d.upTo(100), d.upTo(100), 0, 0), state(d.upTo(100), d.upTo(100), 0, 0), d.below(60)
		p, q := homeOf(s.w, s.tick), homeOf(s.w, s.tick+1)
		want := span.Within(at(a.X-p.X, a.Y-p.Y), at(b.X-q.X, b.Y-q.Y), r)
		if got := meet.Within(s.w, s.tick, a, b, r); got != want {
			t.Fatal(s, a, b, r, got)
		}
		count[want]++
	}
	if count[true] < 3000 || count[false] < 3000 {
		t.Error("too few cases", count)
	}
}

func TestP5_1Hit(t *testing.T) {
	w := world()
	l := states(state(0, 0, 60, 0), state(60, 0, 60, 0), state(120, 0, 60, 0))
	touch := states(state(0, 10, 0, 0), state(200, 10, 0, 0))
	by := states(state(0, 11, 0, 0), state(200, 11, 0, 0))
	wrong := state(0, 0, speed+1, 0)
	for i, c := range []struct {
		tick int64
		l    []api.State
		want int
	}{
		{0, l, 1},
		{3, l, 1},
		{0, l[:2], -1},
		{0, l[1:], 0},
		{0, l[:1], -1},
		{0, nil, -1},
		{0, touch, 0},
		{0, by, -1},
		{0, states(by[0], by[1], touch[0], touch[1], touch[0]), 2},
		{0, states(wrong, by[0], by[0], touch[0], touch[1]), 3}, // from (0, 11) to (0, 11), from there to (0, 10), then it hits
		{0, states(wrong, wrong, wrong), -1},
		{0, states(state(100, 0, 0, 0), wrong, state(100, 0, 0, 0)), -1},
		{-1, l, -1},
		{-1, states(l[0], touch[0], touch[1]), -1},
		{least, l, -1},
		{end - 1, touch, 0},
		{end - 1, states(by[0], touch[0], touch[1]), -1}, // the second passage begins at MaxTick
		{end - 2, states(by[0], touch[0], touch[1]), 1},
		{end, touch, -1},
		{most, l, -1},
		{most - 1, states(by[0], touch[0], touch[1], touch[0]), -1},
	} {
		if got := meet.Hit(w, c.tick, c.l); got != c.want {
			t.Error(i, got)
		}
	}
	for i, w := range broken() {
		if got := meet.Hit(w, 0, l); got != -1 {
			t.Error("not valid", i, got)
		}
	}
}

// TestP5_1HitMoving follows a body that rests while Home moves over it: from (100, 0) to (120, 0) between the ticks 1 and 2.
func TestP5_1HitMoving(t *testing.T) {
	rest := states(state(110, 5, 0, 0), state(110, 5, 0, 0), state(110, 5, 0, 0), state(110, 5, 0, 0))
	w := world()
	w.Bodies[1].Radius = 5
	if got := meet.Hit(w, 0, rest); got != 1 {
		t.Error(got)
	}
	if got := meet.Hit(w, 2, rest); got != 0 {
		t.Error(got)
	}
	w.Bodies[1].Radius = 4
	if got := meet.Hit(w, 0, rest); got != -1 {
		t.Error(got)
	}
}

func TestP5_1Areas(t *testing.T) {
	w := world()
	from, to := box(0, 5, -3, 8, 1, 2, 3, 4), box(90, 95, 1, 2, 0, 0, 0, 0)
	corner := box(-place, place, -place, place, -speed, speed, -speed, speed)
	for i, c := range []struct {
		tick     int64
		from, to api.Box
		a, b     api.Area
		ok       bool
	}{
		{0, from, to, area(-100, -95, -3, 8), area(-10, -5, 1, 2), true},
		{1, from, to, area(-100, -95, -3, 8), area(-30, -25, 1, 2), true},
		{2, to, from, area(-30, -25, 1, 2), area(-100, -95, -3, 8), true},
		{0, corner, corner, area(-place-100, place-100, -place, place), area(-place-100, place-100, -place, place), true},
		{end - 1, from, to, area(-100, -95, -3, 8), area(-10, -5, 1, 2), true},
		{end, from, to, api.Area{}, api.Area{}, false},
		{-1, from, to, api.Area{}, api.Area{}, false},
		{most, from, to, api.Area{}, api.Area{}, false},
		{0, box(1, 0, 0, 0, 0, 0, 0, 0), to, api.Area{}, api.Area{}, false},
		{0, from, box(0, 0, 1, 0, 0, 0, 0, 0), api.Area{}, api.Area{}, false},
		{0, box(0, 0, 0, 0, 0, speed+1, 0, 0), to, api.Area{}, api.Area{}, false},
		{0, from, box(0, 0, 0, 0, 0, 0, -speed-1, 0), api.Area{}, api.Area{}, false},
		{0, box(0, place+1, 0, 0, 0, 0, 0, 0), to, api.Area{}, api.Area{}, false},
		{0, from, box(0, 0, -place-1, 0, 0, 0, 0, 0), api.Area{}, api.Area{}, false},
	} {
		if a, b, ok := meet.Areas(w, c.tick, c.from, c.to); a != c.a || b != c.b || ok != c.ok {
			t.Error(i, a, b, ok)
		}
		if may, sure := meet.May(w, c.tick, c.from, c.to, 1), meet.Sure(w, c.tick, c.from, c.to, far); !c.ok && !may || sure != c.ok {
			t.Error(i, may, sure)
		}
	}
	for i, w := range broken() {
		if a, b, ok := meet.Areas(w, 0, from, to); a != (api.Area{}) || b != (api.Area{}) || ok || !meet.May(w, 0, from, to, 1) || meet.Sure(w, 0, from, to, far) {
			t.Error("not valid", i, a, b, ok)
		}
	}
}

func TestP5_1MaySure(t *testing.T) {
	w := world()
	from, near, wide := flat(0, 0, 0, 95, 0), flat(95, 0, 8, 95, 0), flat(95, 0, 16, 95, 0)
	for i, c := range []struct {
		tick      int64
		from, to  api.Box
		r         int64
		may, sure bool
	}{
		{0, from, near, 10, true, true}, // the root of 25 and 64 is less than 10
		{0, from, near, 9, true, false}, // and greater than 9
		{0, from, near, 5, true, false},
		{0, from, near, 4, false, false},
		{0, from, wide, 10, true, false},
		{1, from, near, 24, false, false},
		{1, from, near, 25, true, false},
		{1, from, near, 27, true, true},
		{0, flat(100, 0, 0, 0, 0), flat(place, 0, 0, 0, 0), 0, true, true},
		{0, from, near, far, true, true},
		{0, from, near, far + 1, true, false},
		{0, flat(100, 0, 0, 0, 0), flat(100, 0, 0, 0, 0), -1, true, false},
		{0, from, near, -1, true, false},
		{0, from, near, most, true, false},
		{0, from, near, least, true, false},
	} {
		if may, sure := meet.May(w, c.tick, c.from, c.to, c.r), meet.Sure(w, c.tick, c.from, c.to, c.r); may != c.may || sure != c.sure {
			t.Error(i, may, sure)
		}
	}
}

// TestP5_1MaySureRandom holds both against the operations of layer 1.
func TestP5_1MaySureRandom(t *testing.T) {
	d := draw(512)
	count := map[[2]bool]int{}
	for range 20000 {
		s := d.scene(0)
		from, to, r := d.box(s), d.box(s), d.below(300)
		a, b := areaOf(s.w, s.tick, from), areaOf(s.w, s.tick+1, to)
		want := [2]bool{!span.Clear(a, b, r), span.Hits(a, b, r)}
		if got := [2]bool{meet.May(s.w, s.tick, from, to, r), meet.Sure(s.w, s.tick, from, to, r)}; got != want {
			t.Fatal(s, from, to, r, got)
		}
		if x, y, ok := meet.Areas(s.w, s.tick, from, to); x != a || y != b || !ok {
			t.Fatal(s, from, to, x, y, ok)
		}
		count[want]++
	}
	if count[[2]bool{}] < 1000 || count[[2]bool{true}] < 1000 || count[[2]bool{true, true}] < 1000 {
		t.Error("too few cases", count)
	}
}
