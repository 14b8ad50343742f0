package push_test

import (
	"testing"

	"bolide/api"
	"bolide/push"
)

// safe and because are verdicts.
func safe() api.Verdict { return api.Verdict{Safe: true} }

func because(why int, failed []int, cell int, tick int64) api.Verdict {
	return api.Verdict{Why: why, Failed: failed, Cell: cell, Tick: tick}
}

// coming is a body that comes from (100, y) along X, and passes Home in the tick 9.
func coming(y int64) api.Box { return one(100, y, -10, 0) }

// aside is a charge that pushes a body by so much along Y at a tick.
func aside(tick, by int64) api.Mission {
	m := api.Mission{Kind: api.PushCharge, Arrive: tick, For: 1, Mass: only(1), Power: only(by), Mult: only(1000), Dir: at(0, 1)}
	if by < 0 {
		m.Power, m.Dir = only(-by), at(0, -1)
	}
	return m
}

// against is a campaign against a body of the mass 1.
func against(l ...api.Mission) api.Campaign {
	return but(campaign(l...), func(c *api.Campaign) { c.Body = only(1) })
}

// hole is a keyhole.
func hole(tick, lo, hi int64) api.Keyhole { return api.Keyhole{Tick: tick, Line: of(lo, hi)} }

// keyed is a campaign without missions, with keyholes.
func keyed(keys ...api.Keyhole) api.Campaign {
	return but(against(), func(c *api.Campaign) { c.Keys = keys })
}

func TestP8_4Verify(t *testing.T) {
	type campaigns = api.Campaign
	type mission = api.Mission
	slow := func(c api.Campaign) api.Campaign { return but(c, func(c *campaigns) { c.Fast = 49 }) } // a craft flies to (50, 0) in a tick
	late := func(m mission) mission { m.Launch = m.Arrive - 1; return m }
	ticks := func(c api.Campaign, n int) api.Campaign { return but(c, func(c *campaigns) { c.Ticks = n }) }
	fails := func(c api.Campaign, n int) api.Campaign { return but(c, func(c *campaigns) { c.Fails = n }) }
	over := with(aside(3, speed+1), func(m *mission) {})
	fast := one(0, 1000, speed, 0)
	for name, c := range map[string]struct {
		tick int64
		set  []api.Box
		c    api.Campaign
		want api.Verdict
	}{
		"of the chapter":        {8, boxes(one(120, 0, -10, 0)), campaign(), because(api.WhyHit, nil, 0, 18)},
		"at the distance":       {0, boxes(coming(15)), against(), because(api.WhyHit, nil, 0, 9)},
		"farther":               {0, boxes(coming(16)), against(), safe()},
		"before it comes":       {0, boxes(coming(0)), ticks(against(), 8), safe()}, // at 20 then
		"when it comes":         {0, boxes(coming(0)), ticks(against(), 9), because(api.WhyHit, nil, 0, 8)},
		"no cells":              {0, nil, slow(fails(against(aside(1, 5)), 1)), safe()},
		"pushed aside":          {0, boxes(coming(0)), against(aside(5, 4)), safe()}, // 4 a tick: 16 when it is at 10
		"too late":              {0, boxes(coming(0)), against(aside(6, 4)), because(api.WhyHit, nil, 0, 9)},
		"too weak":              {0, boxes(coming(0)), against(aside(5, 3)), because(api.WhyHit, nil, 0, 9)},
		"nobody fails":          {0, boxes(coming(0)), fails(against(aside(1, 9)), 0), safe()},
		"it fails":              {0, boxes(coming(0)), fails(against(aside(1, 9)), 1), because(api.WhyHit, list(0), 0, 8)},
		"one of two":            {0, boxes(coming(0)), fails(against(aside(1, 9), aside(2, 9)), 1), safe()},
		"both of two":           {0, boxes(coming(0)), fails(against(aside(1, 9), aside(2, 9)), 2), because(api.WhyHit, list(0, 1), 0, 8)},
		"one against another":   {0, boxes(coming(0)), fails(against(aside(1, 9), aside(2, 9), aside(3, -9)), 1), because(api.WhyHit, list(0), 0, 8)},
		"with a reserve":        {0, boxes(coming(0)), fails(against(aside(1, 9), reserve(aside(2, 9))), 1), safe()},
		"reserve fails":         {0, boxes(coming(0)), fails(against(aside(1, 9), reserve(aside(2, 9))), 2), because(api.WhyHit, list(0, 1), 0, 8)},
		"reserve stays":         {0, boxes(coming(0)), against(reserve(aside(1, 9))), because(api.WhyHit, nil, 0, 8)},
		"reserve before":        {0, boxes(coming(0)), fails(against(reserve(aside(1, 9)), aside(2, 9)), 1), because(api.WhyHit, list(1), 0, 8)},
		"it reaches":            {0, boxes(coming(0)), but(against(late(aside(5, 9))), func(c *campaigns) { c.Fast = 50 }), safe()},
		"it does not reach":     {0, boxes(coming(0)), slow(against(late(aside(5, 9)))), because(api.WhyFar, nil, 0, 5)},
		"far before failures":   {0, boxes(coming(16)), slow(fails(against(aside(4, 0), late(aside(5, 0))), 2)), because(api.WhyFar, nil, 0, 5)},
		"far, but a reserve":    {0, boxes(coming(16)), slow(fails(against(aside(4, 0), reserve(late(aside(5, 0)))), 1)), because(api.WhyFar, list(0), 0, 5)},
		"reserve never":         {0, boxes(coming(16)), slow(against(aside(4, 0), reserve(late(aside(5, 0))))), safe()},
		"arrived before":        {6, boxes(one(40, 16, -10, 0)), slow(against(late(aside(5, 9)))), safe()},
		"arrives after":         {0, boxes(coming(16)), slow(ticks(against(late(aside(5, 9))), 5)), safe()},
		"at the last tick":      {0, boxes(coming(16)), slow(ticks(against(late(aside(5, 9))), 6)), because(api.WhyFar, nil, 0, 5)},
		"at the first tick":     {5, boxes(one(50, 16, -10, 0)), slow(against(late(aside(5, 9)))), because(api.WhyFar, nil, 0, 5)},
		"far before hit":        {5, boxes(one(200, 0, -200, 0)), but(slow(against(late(aside(5, 9)))), func(c *campaigns) { c.Miss = 300 }), because(api.WhyFar, nil, 0, 5)},
		"far before over":       {2, boxes(one(50, 0, 0, 0)), slow(against(late(aside(2, speed+1)))), because(api.WhyFar, nil, 0, 2)},
		"over by a push":        {0, boxes(one(0, 50, 0, 0)), against(over), because(api.WhyOver, nil, 0, 3)},
		"just not over":         {0, boxes(one(0, 50, 0, 0)), ticks(against(aside(3, speed)), 5), safe()},
		"over by a step":        {0, boxes(fast), ticks(against(), 400), because(api.WhyOver, nil, 0, 32)}, // 33 steps are more than MaxPlace
		"before it is over":     {0, boxes(fast), ticks(against(), 32), safe()},
		"over before hit":       {3, boxes(one(0, 0, 0, 0)), against(over), because(api.WhyOver, nil, 0, 3)},
		"over before key":       {0, boxes(fast), ticks(keyed(hole(32, -num, num)), 400), because(api.WhyOver, nil, 0, 32)},
		"key":                   {0, boxes(coming(20)), keyed(hole(7, 20, 25)), because(api.WhyKey, nil, 0, 7)},
		"beside the key":        {0, boxes(coming(20)), keyed(hole(7, -25, 19), hole(7, 21, 30)), safe()},
		"key at another tick":   {0, boxes(coming(20)), keyed(hole(20, 20, 25), hole(-1, 20, 25)), safe()},
		"the first key":         {0, boxes(coming(20)), keyed(hole(7, 0, 1), hole(19, 20, 25), hole(4, 20, 20)), because(api.WhyKey, nil, 0, 4)},
		"key at the last tick":  {0, boxes(coming(20)), keyed(hole(19, 20, 20)), because(api.WhyKey, nil, 0, 19)},
		"key of no numbers":     {0, boxes(coming(20)), keyed(hole(7, 1, 0)), safe()},
		"pushed out of a key":   {0, boxes(coming(20)), but(against(aside(7, 5)), func(c *campaigns) { c.Keys = []api.Keyhole{hole(7, 20, 20)} }), safe()},
		"pushed into a key":     {0, boxes(coming(20)), but(against(aside(7, 10)), func(c *campaigns) { c.Keys = []api.Keyhole{hole(7, 36, 40)} }), because(api.WhyKey, nil, 0, 7)}, // from (30, 20) to (20, 30): 500, divided by 14 to 15
		"without an aim":        {0, boxes(one(50, 0, 0, 0)), keyed(hole(4, num, num)), because(api.WhyKey, nil, 0, 4)},
		"no aim below":          {0, boxes(one(50, 0, 0, 0)), keyed(hole(4, least, -num)), because(api.WhyKey, nil, 0, 4)},
		"no aim, beyond":        {0, boxes(one(50, 0, 0, 0)), keyed(hole(4, num+1, most), hole(5, least, -num-1)), safe()},
		"no aim, no key then":   {0, boxes(one(50, 0, 0, 0)), keyed(hole(20, num, num)), safe()},
		"hit before key":        {0, boxes(coming(0)), keyed(hole(8, -num, num)), because(api.WhyHit, nil, 0, 8)},
		"second cell":           {0, boxes(coming(20), coming(5)), against(), because(api.WhyHit, nil, 1, 8)},
		"cells before ticks":    {0, boxes(coming(5), one(50, 0, -10, 0)), against(), because(api.WhyHit, nil, 0, 8)}, // the second one hits at 3
		"failures before cells": {0, boxes(coming(0), coming(-80)), fails(against(aside(1, 10)), 1), because(api.WhyHit, nil, 1, 8)},
	} {
		s := scene{w: world(), tick: c.tick, set: c.set, c: c.c}
		if v, e := s.verify(); !same(v, c.want) || e != api.OK {
			t.Error(name, v, e)
		}
		if v := s.verdictOf(); !same(v, c.want) {
			t.Error("the chapter's words", name, v)
		}
	}
}

// TestP8_4Tractor has missions that work at several ticks.
func TestP8_4Tractor(t *testing.T) {
	pull := func(tick int64, ticks int) api.Mission {
		return with(aside(tick, 1), func(m *api.Mission) { m.Kind, m.For = api.PushTractor, ticks })
	}
	shove := with(pull(1, 3), func(m *api.Mission) { m.Kind, m.Dir = api.PushBeam, at(0, -1) })
	later := one(60, 2, -10, 2)
	for name, c := range map[string]struct {
		m    api.Mission
		tick int64
		b    api.Box
		want api.Verdict
	}{
		"one tick":       {pull(1, 1), 0, coming(0), because(api.WhyHit, nil, 0, 8)},
		"two ticks":      {pull(1, 2), 0, coming(0), safe()}, // at 13 when it is at 20, at 15 when it is at 10
		"beam":           {shove, 0, coming(0), safe()},
		"arrived before": {pull(1, 6), 4, later, safe()},
		"has worked":     {pull(1, 3), 4, later, because(api.WhyHit, nil, 0, 9)},
		"never":          {pull(10, 100), 0, coming(0), because(api.WhyHit, nil, 0, 8)},
	} {
		s := scene{w: world(), tick: c.tick, set: boxes(c.b), c: against(c.m)}
		if v, e := s.verify(); !same(v, c.want) || e != api.OK || !same(v, s.verdictOf()) {
			t.Error(name, v, e)
		}
	}
}

// TestP8_4Home has a Home with many places: a craft comes from where Home was, and the body passes where it is.
func TestP8_4Home(t *testing.T) {
	track := make([]api.Vec, 4096)
	for i := range track {
		track[i] = at(int64(1000*i), 0)
	}
	w := api.World{Bodies: []api.Body{{Track: []api.Vec{at(0, 0)}}, {Radius: 10, Track: track}}, Home: 1}
	craft := missions(with(aside(3, 0), func(m *api.Mission) { m.Launch = 2 })) // from (2000, 0) in 1 tick
	for name, c := range map[string]struct {
		l    []api.Mission
		tick int64
		b    api.Box
		fast int64
		want api.Verdict
	}{
		"too far":           {craft, 0, one(3001, 16, 0, 0), 1000, because(api.WhyFar, nil, 0, 3)},
		"reached":           {craft, 0, one(3001, 16, 0, 0), 1001, safe()},
		"reached ahead":     {craft, 3, one(1000, 16, 0, 0), 1000, safe()},
		"met by Home":       {nil, 0, one(3500, 15, 0, 0), 1, because(api.WhyHit, nil, 0, 3)},
		"not met":           {nil, 0, one(3500, 16, 0, 0), 1, safe()},
		"met at an odd one": {nil, 1, one(4500, 15, 0, 0), 1, because(api.WhyHit, nil, 0, 4)},
		"met after a round": {nil, 4098, one(3500, 15, 0, 0), 1, because(api.WhyHit, nil, 0, 4096+3)},
		"met in its return": {nil, 4090, one(200000, 15, 0, 0), 1, because(api.WhyHit, nil, 0, 4095)}, // from the last place to the first one
		"with Home":         {nil, 0, one(0, 16, 1000, 0), 1, safe()},
		"nearer with Home":  {nil, 0, one(0, 15, 1000, 0), 1, because(api.WhyHit, nil, 0, 0)},
	} {
		s := scene{w: w, tick: c.tick, set: boxes(c.b), c: but(against(c.l...), func(x *api.Campaign) { x.Fast = c.fast })}
		if v, e := s.verify(); !same(v, c.want) || e != api.OK || !same(v, s.verdictOf()) {
			t.Error(name, v, e)
		}
	}
}

func TestP8_4Errors(t *testing.T) {
	full := make([]api.Box, 513)
	many := make([]api.Box, 41)
	cells := make([]api.Box, 40)
	for i := range cells {
		cells[i] = coming(20)
	}
	bad := append(make([]api.Box, 41), one(place+1, 0, 0, 0))
	c := against()
	wrong := but(c, func(c *api.Campaign) { c.Body = of(2, 1) })
	gas := api.Drift{Gas: 1001}
	for name, x := range map[string]struct {
		s scene
		e api.Errno
	}{
		"world":       {scene{api.World{}, gas, -1, full, wrong}, api.ErrShort},
		"drift":       {scene{world(), gas, -1, full, wrong}, api.ErrRange},
		"drift order": {scene{world(), api.Drift{Light: of(1, 0)}, -1, full, api.Campaign{}}, api.ErrOrder},
		"campaign":    {scene{world(), none(), -1, full, wrong}, api.ErrOrder},
		"tick":        {scene{world(), none(), -1, full, c}, api.ErrRange},
		"late":        {scene{world(), none(), end - 19, full, c}, api.ErrRange},
		"latest":      {scene{world(), none(), end - 20, nil, c}, api.OK},
		"never":       {scene{world(), none(), most, nil, c}, api.ErrRange},
		"full":        {scene{world(), none(), 0, full, c}, api.ErrFull},
		"box":         {scene{world(), none(), 0, bad, c}, api.ErrRange},
		"many":        {scene{world(), none(), 0, many, c}, api.ErrFull},
		"most":        {scene{world(), none(), 0, cells, c}, api.OK},
	} {
		v, e := x.s.verify()
		if e != x.e || v.Safe != (e == api.OK) || !v.Safe && !same(v, api.Verdict{}) {
			t.Error(name, v, e)
		}
		n, e := x.s.choose(options(x.s.c))
		if e != x.e || n != 0 {
			t.Error("Choose", name, n, e)
		}
		a, b, e := x.s.worth(options(x.s.c), nil)
		if e != x.e || a != 0 || b != 0 {
			t.Error("Worth", name, a, b, e)
		}
	}
	if v, e := push.Verify(world(), none(), end-20, boxes(one(100, 0, -5, 0)), c); !same(v, because(api.WhyHit, nil, 0, end-4)) || e != api.OK {
		t.Error(v, e) // from 20 to 15
	}
}

// TestP8_4Any compares verdicts with the chapter's words.
func TestP8_4Any(t *testing.T) {
	d := draw(84)
	count := map[int]int{}
	failed := 0
	for range 20000 {
		s := d.scene(3, 4)
		v, e := s.verify()
		if want := s.verdictOf(); !same(v, want) || e != api.OK {
			t.Fatal(s, v, e, want)
		}
		count[v.Why]++
		if len(v.Failed) > 0 {
			failed++
		}
	}
	for why := range 5 {
		if count[why] < 200 {
			t.Error("too few cases", count)
		}
	}
	if failed < 200 {
		t.Error("too few cases", failed)
	}
}
