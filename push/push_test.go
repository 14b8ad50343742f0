package push_test

import (
	"testing"

	"bolide/api"
	"bolide/orbit"
	"bolide/push"
)

// rock is the box of the chapter's examples.
func rock() api.Box { return one(100, -20, -40, 0) }

func TestP8_2Does(t *testing.T) {
	type mission = api.Mission
	turned := with(charge(), func(m *mission) { m.Power, m.Dir = of(500, 1600), at(-3, 1) })
	late := with(impactor(), func(m *mission) { m.Launch = 4 })
	for name, c := range map[string]struct {
		m    mission
		body api.Span
		tick int64
		b    api.Box
		want api.Area
	}{
		"I":                  {impactor(), mass(), 10, rock(), area(10, 15, -1, 0)},
		"I before":           {impactor(), mass(), 9, rock(), api.Area{}},
		"I after":            {impactor(), mass(), 11, rock(), api.Area{}},
		"I for long":         {with(impactor(), func(m *mission) { m.For = 100 }), mass(), 11, rock(), api.Area{}},
		"C":                  {charge(), mass(), 10, rock(), area(0, 0, 1, 2)},
		"C before":           {charge(), mass(), 9, rock(), api.Area{}},
		"C for long":         {with(charge(), func(m *mission) { m.For = 100 }), mass(), 11, rock(), api.Area{}},
		"C turned":           {turned, mass(), 10, rock(), area(-5, -1, 0, 2)}, // 500 to 1600, times -3 and 1
		"heavier":            {turned, of(1000, 3000), 10, rock(), area(-5, 0, 0, 2)},
		"tractor":            {tractor(), mass(), 10, rock(), area(0, 0, 1, 2)},
		"tractor at its end": {tractor(), mass(), 12, rock(), area(0, 0, 1, 2)},
		"tractor after":      {tractor(), mass(), 13, rock(), api.Area{}},
		"tractor before":     {tractor(), mass(), 9, rock(), api.Area{}},
		"beam":               {beam(), mass(), 11, rock(), area(0, 0, -2, -1)},
		"beam at its end":    {beam(), mass(), 12, rock(), area(0, 0, -2, -1)},
		"beam after":         {beam(), mass(), 13, rock(), api.Area{}},
		"beam before":        {beam(), mass(), 9, rock(), api.Area{}},
		"beam turned":        {with(turned, func(m *mission) { m.Kind = api.PushBeam }), mass(), 10, rock(), area(1, 5, -2, 0)},
		"spans":              {impactor(), of(500, 1000), 10, box(100, 130, -20, 40, -40, -30, 0, 2), area(8, 32, -3, 3)}, // 200000 to 300000, times 40 to 53, and times -4 to 4
		"masses":             {with(impactor(), func(m *mission) { m.Mass = of(50, 100) }), mass(), 10, rock(), area(5, 15, -1, 0)},
		"as fast":            {impactor(), mass(), 10, one(100, -20, 10, -2), api.Area{}},
		"in 6 ticks":         {late, mass(), 10, one(100, -24, 0, 0), area(3, 6, -2, 0)}, // the speeds 16..17 and -4
		"at the end":         {with(tractor(), func(m *mission) { m.Launch, m.Arrive = end-1, end }), mass(), end, rock(), area(0, 0, 1, 2)},
		"light":              {with(charge(), func(m *mission) { m.Power, m.Dir = only(power), at(4096, -4096) }), only(1), 10, rock(), area(1<<52, 1<<52, -1<<52, -1<<52)},
		"heaviest":           {with(charge(), func(m *mission) { m.Power, m.Dir = only(power), at(4096, -4096) }), only(heavy), 10, rock(), area(4096, 4096, -4096, -4096)},
	} {
		if a, e := push.Does(world(), c.m, c.body, c.tick, c.b); a != c.want || e != api.OK {
			t.Error(name, a, e)
		}
	}
	moved := with(impactor(), func(m *mission) { m.Launch = 4 }) // from (100, -50), in 6 ticks
	if a, e := push.Does(moving(), moved, mass(), 10, one(130, -50, 0, 0)); a != area(1, 2, 0, 0) || e != api.OK {
		t.Error(a, e)
	}
	corner := api.World{Bodies: []api.Body{{Track: []api.Vec{at(-place, place)}}}}
	greatest := with(impactor(), func(m *mission) { m.Launch, m.Mass, m.Mult = 9, only(1<<20), only(10000) })
	n := 10 * int64(1<<20) * (2*place + speed)
	if a, e := push.Does(corner, greatest, only(1), 10, one(place, -place, -speed, speed)); a != area(n, n, -n, -n) || e != api.OK {
		t.Error(a, e)
	}
}

// TestP8_2DoesAny compares what missions do with the chapter's words.
func TestP8_2DoesAny(t *testing.T) {
	d := draw(82)
	count := map[int]int{}
	for range 50000 {
		s := d.scene(0, 0)
		m, body, b, tick := d.mission(s.tick, 6), d.from(1, 2000, 500), d.cell(s), s.tick+d.below(6)
		a, e := push.Does(s.w, m, body, tick, b)
		if a != doesOf(s.w, m, body, tick, b) || e != api.OK {
			t.Fatal(s.w, m, body, tick, b, a, e)
		}
		if a != (api.Area{}) {
			count[m.Kind]++
		}
	}
	for kind := api.PushImpact; kind <= api.PushBeam; kind++ {
		if count[kind] < 1000 {
			t.Error("too few cases", count)
		}
	}
}

// targets are bodies, ticks and boxes with errors, in their order.
func targets() map[string]struct {
	body api.Span
	tick int64
	b    api.Box
	e    api.Errno
} {
	bad := box(1, 0, 0, 0, 0, 0, 0, 0)
	return map[string]struct {
		body api.Span
		tick int64
		b    api.Box
		e    api.Errno
	}{
		"right": {mass(), 0, rock(), api.OK}, "last tick": {mass(), end, rock(), api.OK}, "greatest body": {of(1, heavy), 0, rock(), api.OK},
		"body order":   {of(2, 1), -1, bad, api.ErrOrder},
		"both of body": {of(0, -1), -1, bad, api.ErrOrder},
		"no body":      {of(0, 1), 0, rock(), api.ErrRange},
		"great body":   {of(1, heavy+1), 0, rock(), api.ErrRange},
		"tick":         {mass(), -1, rock(), api.ErrRange},
		"late":         {mass(), end + 1, rock(), api.ErrRange},
		"box":          {mass(), 0, bad, api.ErrRange},
		"far box":      {mass(), 0, one(place+1, 0, 0, 0), api.ErrRange},
		"fast box":     {mass(), 0, one(0, 0, 0, speed+1), api.ErrRange},
	}
}

func TestP8_2Errors(t *testing.T) {
	wrong := with(impactor(), func(m *api.Mission) { m.Mult = of(2, 1) })
	for name, c := range targets() {
		if a, e := push.Does(world(), impactor(), c.body, c.tick, c.b); e != c.e || a != (api.Area{}) {
			t.Error("Does", name, a, e)
		}
		if a, e := push.Does(world(), api.Mission{}, c.body, c.tick, c.b); e != api.ErrKind || a != (api.Area{}) {
			t.Error("Does mission first", name, e)
		}
		if _, e := push.Does(api.World{}, api.Mission{}, c.body, c.tick, c.b); e != api.ErrShort {
			t.Error("Does world first", name, e)
		}
		if b, e := push.Push(world(), nil, c.body, c.tick, c.b); e != c.e || e == api.OK && b != c.b || e != api.OK && b != (api.Box{}) {
			t.Error("Push without missions", name, b, e)
		}
		if _, e := push.Push(world(), missions(impactor(), charge()), c.body, c.tick, c.b); e != c.e {
			t.Error("Push", name, e)
		}
		if _, e := push.Push(world(), missions(wrong, impactor()), c.body, c.tick, c.b); e != api.ErrOrder {
			t.Error("Push first mission", name, e)
		}
		want := api.ErrKind
		if c.e != api.OK {
			want = c.e // Does finds it with the first mission
		}
		if b, e := push.Push(world(), missions(impactor(), api.Mission{}), c.body, c.tick, c.b); e != want || b != (api.Box{}) {
			t.Error("Push second mission", name, e)
		}
		if _, e := push.Push(world(), make([]api.Mission, 7), c.body, c.tick, c.b); e != api.ErrFull {
			t.Error("Push many", name, e)
		}
		if _, e := push.Push(api.World{}, make([]api.Mission, 7), c.body, c.tick, c.b); e != api.ErrShort {
			t.Error("Push world first", name, e)
		}
		s := state(c.b.X.Lo, c.b.Y.Lo, c.b.U.Lo, c.b.V.Lo)
		if is := push.Pushed(world(), missions(impactor()), c.body, c.tick, s, s); is != (c.e == api.OK || name == "box") { // a box that is not valid because of its order has a state that is
			t.Error("Pushed", name, is)
		}
	}
}

func TestP8_2Push(t *testing.T) {
	type mission = api.Mission
	fast := func(u int64) api.Box { return one(100, -20, u, 0) }
	right := with(charge(), func(m *mission) { m.Power, m.Dir = of(1000, 5000), at(1, 0) }) // 1 to 5
	left := with(right, func(m *mission) { m.Kind, m.Power = api.PushBeam, of(3000, 7000) })
	for name, c := range map[string]struct {
		l    []mission
		tick int64
		b    api.Box
		want api.Box
		e    api.Errno
	}{
		"I and C":         {missions(impactor(), charge()), 10, rock(), box(100, 100, -20, -20, -30, -25, 0, 2), api.OK},
		"C and I":         {missions(charge(), impactor()), 10, rock(), box(100, 100, -20, -20, -30, -25, 0, 2), api.OK},
		"before":          {missions(impactor(), charge()), 9, rock(), rock(), api.OK},
		"none":            {nil, 10, rock(), rock(), api.OK},
		"reserves":        {missions(reserve(impactor()), reserve(charge())), 10, rock(), box(100, 100, -20, -20, -30, -25, 0, 2), api.OK},
		"twice":           {missions(impactor(), impactor()), 10, rock(), box(100, 100, -20, -20, -20, -10, -2, 0), api.OK}, // both from the box before
		"six":             {missions(right, right, right, right, right, right), 10, rock(), box(100, 100, -20, -20, -34, -10, 0, 0), api.OK},
		"both ways":       {missions(right, left), 10, rock(), box(100, 100, -20, -20, -46, -38, 0, 0), api.OK},
		"spans":           {missions(right), 10, box(1, 2, 3, 4, 5, 6, 7, 8), box(1, 2, 3, 4, 6, 11, 7, 8), api.OK},
		"to the limit":    {missions(right), 10, fast(speed - 5), box(100, 100, -20, -20, speed-4, speed, 0, 0), api.OK},
		"over":            {missions(right), 10, fast(speed - 4), api.Box{}, api.ErrOver},
		"over and back":   {missions(right, left), 10, fast(speed - 2), box(100, 100, -20, -20, speed-8, speed, 0, 0), api.OK}, // -6 to 2 together
		"over downwards":  {missions(left), 10, fast(6 - speed), api.Box{}, api.ErrOver},
		"limit downwards": {missions(left), 10, fast(7 - speed), box(100, 100, -20, -20, -speed, 4-speed, 0, 0), api.OK},
	} {
		if b, e := push.Push(world(), c.l, mass(), c.tick, c.b); b != c.want || e != c.e {
			t.Error(name, b, e)
		}
	}
	d := draw(821)
	count := map[api.Errno]int{}
	for range 20000 {
		s := d.scene(1, 6)
		tick := s.tick + d.below(6)
		b := d.cell(s)
		if d.below(2) == 0 {
			b.U = of(speed-d.below(30), speed)
		}
		want := pushedOf(s.w, s.c.Missions, s.c.Body, tick, b)
		got, e := push.Push(s.w, s.c.Missions, s.c.Body, tick, b)
		if isValid := orbit.Check(want) == api.OK; isValid && (got != want || e != api.OK) || !isValid && (got != (api.Box{}) || e != api.ErrOver) {
			t.Fatal(s, tick, b, got, e, want)
		}
		count[e]++
	}
	if count[api.OK] < 2000 || count[api.ErrOver] < 1000 {
		t.Error("too few cases", count)
	}
}

func TestP8_2Pushed(t *testing.T) {
	both := missions(impactor(), charge()) // 10 to 15 and -1 to 0; 1 to 2
	s := state(100, -20, -40, 0)
	for name, c := range map[string]struct {
		next api.State
		is   bool
	}{
		"least": {state(100, -20, -30, 0), true}, "most": {state(100, -20, -25, 2), true}, "between": {state(100, -20, -27, 1), true},
		"less along X": {state(100, -20, -31, 1), false}, "more along X": {state(100, -20, -24, 1), false},
		"less along Y": {state(100, -20, -30, -1), false}, "more along Y": {state(100, -20, -30, 3), false},
		"another X": {state(101, -20, -30, 0), false}, "another Y": {state(100, -21, -30, 0), false}, "as before": {s, false},
	} {
		if is := push.Pushed(world(), both, mass(), 10, s, c.next); is != c.is {
			t.Error(name, is)
		}
	}
	if !push.Pushed(world(), both, mass(), 9, s, s) || push.Pushed(world(), both, mass(), 9, s, state(100, -20, -39, 0)) || !push.Pushed(world(), nil, mass(), 10, s, s) {
		t.Error("nothing is done")
	}
	// 1 to 5 more is beyond the limits, but not for each number.
	right := with(charge(), func(m *api.Mission) { m.Power, m.Dir = of(1000, 5000), at(1, 0) })
	last := state(0, 0, speed-2, 0)
	for u := speed - 2; u <= speed+1; u++ {
		if is := push.Pushed(world(), missions(right), mass(), 10, last, state(0, 0, u, 0)); is != (u == speed-1 || u == speed) {
			t.Error(u, is)
		}
	}
	if push.Pushed(api.World{}, both, mass(), 9, s, s) || push.Pushed(world(), make([]api.Mission, 7), mass(), 9, s, s) || push.Pushed(world(), missions(charge(), api.Mission{}), mass(), 9, s, s) {
		t.Error("not valid")
	}
	for _, s := range []api.State{state(place+1, 0, 0, 0), state(0, -place-1, 0, 0), state(0, 0, speed+1, 0), state(0, 0, 0, least)} {
		if push.Pushed(world(), nil, mass(), 9, s, s) {
			t.Error("not valid", s)
		}
	}
}

// TestP8_2PushedAny compares what is a push with the chapter's words: the push of each mission is one of its whole numbers.
func TestP8_2PushedAny(t *testing.T) {
	d := draw(822)
	count := map[bool]int{}
	for range 20000 {
		s := d.scene(0, 6)
		tick, from := s.tick+d.below(6), d.stateIn(d.cell(s))
		next := from
		for _, m := range s.c.Missions {
			a := doesOf(s.w, m, s.c.Body, tick, alone(from))
			next.U, next.V = next.U+d.in(a.X), next.V+d.in(a.Y)
		}
		isValid := orbit.CheckState(next) == api.OK
		if push.Pushed(s.w, s.c.Missions, s.c.Body, tick, from, next) != isValid {
			t.Fatal(s, tick, from, next)
		}
		next.U, next.V = next.U+d.upTo(5), next.V+d.upTo(5)
		is := push.Pushed(s.w, s.c.Missions, s.c.Body, tick, from, next)
		if is != (orbit.Holds(pushedOf(s.w, s.c.Missions, s.c.Body, tick, alone(from)), next) && orbit.CheckState(next) == api.OK) {
			t.Fatal(s, tick, from, next, is)
		}
		count[is]++
	}
	if count[true] < 1000 || count[false] < 1000 {
		t.Error("too few cases", count)
	}
}
