package watch_test

import (
	"slices"
	"testing"

	"bolide/api"
	"bolide/watch"
)

// example are the two cells of the chapter's examples.
func example() []api.Box { return cells(area(30, 33, 40, 44), area(60, 61, 0, 0)) }

// leaving is a box that is beyond the limits after some ticks.
func leaving(ticks int64) api.Box {
	return api.Box{X: of(place-ticks+1, place-ticks+1), U: of(1, 1)}
}

func TestP6_3Check(t *testing.T) {
	type offer = api.Offer
	later := func(tick int64) offer { return with(radar(), func(o *offer) { o.Tick = tick }) }
	bad := with(radar(), func(o *offer) { o.Kind = 0 })
	set := example()
	for name, c := range map[string]struct {
		s      api.Sky
		d      api.Drift
		tick   int64
		set    []api.Box
		offers []offer
		e      api.Errno
	}{
		"nothing":         {heaven(), api.Drift{}, 0, nil, nil, api.OK},
		"all":             {heaven(), api.Drift{Gas: 1}, 7, set, plan(later(7), later(407), with(telescope(), func(o *offer) { o.Tick = 100 })), api.OK},
		"sky first":       {badSky(), api.Drift{Gas: -1}, -1, set, plan(bad), api.ErrOrder},
		"no world":        {api.Sky{}, api.Drift{Gas: -1}, -1, set, plan(bad), api.ErrShort},
		"drift":           {heaven(), api.Drift{Gas: -1}, 0, set, plan(bad), api.ErrRange},
		"order of drift":  {heaven(), api.Drift{Light: of(1, 0)}, -1, set, plan(bad), api.ErrOrder},
		"tick":            {heaven(), api.Drift{}, -1, row(513), plan(bad), api.ErrRange},
		"late":            {heaven(), api.Drift{}, end + 1, row(513), plan(bad), api.ErrRange},
		"latest":          {heaven(), api.Drift{}, end, set, plan(later(end)), api.OK},
		"box":             {heaven(), api.Drift{}, 0, cells(area(1, 0, 0, 0)), plan(bad), api.ErrRange},
		"100 cells":       {heaven(), api.Drift{}, 0, row(100), nil, api.OK},
		"101 cells":       {heaven(), api.Drift{}, 0, row(101), plan(bad), api.ErrFull},
		"full of cells":   {heaven(), api.Drift{}, 0, row(513), plan(bad), api.ErrFull},
		"cells first":     {heaven(), api.Drift{}, 0, append(row(101), resting(area(1, 0, 0, 0))), plan(bad), api.ErrRange},
		"10 offers":       {heaven(), api.Drift{}, 0, set, slices.Repeat(plan(radar()), 10), api.OK},
		"11 offers":       {heaven(), api.Drift{}, 0, set, slices.Repeat(plan(bad), 11), api.ErrFull},
		"offer":           {heaven(), api.Drift{}, 0, set, plan(radar(), bad), api.ErrKind},
		"its own tick":    {heaven(), api.Drift{}, 1, set, plan(later(-1)), api.ErrRange},
		"offer first":     {heaven(), api.Drift{}, 1, set, plan(with(radar(), func(o *offer) { o.Station = 9 }), bad), api.ErrMissing},
		"before":          {heaven(), api.Drift{}, 1, set, plan(later(0), bad), api.ErrRange},
		"too late":        {heaven(), api.Drift{}, 1, set, plan(later(402), bad), api.ErrRange},
		"missing first":   {heaven(), api.Drift{}, 1, set, plan(with(later(402), func(o *offer) { o.Station = 9 })), api.ErrMissing},
		"over":            {heaven(), api.Drift{}, 5, []api.Box{set[0], leaving(3)}, plan(later(7), later(8), bad), api.ErrOver},
		"just before":     {heaven(), api.Drift{}, 5, []api.Box{set[0], leaving(3)}, plan(later(7)), api.OK},
		"before the over": {heaven(), api.Drift{}, 5, []api.Box{leaving(3)}, plan(later(7), bad, later(8)), api.ErrKind},
		"over, descends":  {heaven(), api.Drift{}, 5, []api.Box{leaving(3)}, plan(later(6), later(9), later(5)), api.ErrOver},
		"over at once":    {heaven(), api.Drift{}, 5, []api.Box{leaving(1)}, plan(later(5), later(6)), api.ErrOver},
	} {
		if e := watch.Check(c.s, c.d, c.tick, c.set, c.offers); e != c.e {
			t.Error(name, e)
		}
		w := scene{c.s, c.d, c.tick, c.set, c.offers}
		if n, e := w.worst(list(-1), 4); c.e != api.OK && (n != 0 || e != c.e) {
			t.Error("Worst", name, n, e)
		}
		if l, e := w.left(list(-1), nil); c.e != api.OK && (len(l) > 0 || e != c.e) {
			t.Error("Left", name, l, e)
		}
		if l, n, e := w.best(api.Moon{Body: -1}, -1, 4); c.e != api.OK && (len(l) > 0 || n != 0 || e != c.e) {
			t.Error("Best", name, l, n, e)
		}
	}
}

func TestP6_4Left(t *testing.T) {
	type offer = api.Offer
	half := resting(area(90, 110, 0, 0)) // may be seen by the radar, from 88 to 112
	away := resting(area(200, 201, 0, 0))
	set := append(example(), half, away) // from 48 to 57, from 58 to 63
	wide := with(telescope(), func(o *offer) { o.Wide = 10000 })
	w := scene{heaven(), api.Drift{}, 0, set, plan(radar(), wide)} // the telescope surely sees all but the first one
	for i, c := range []struct {
		chosen   []int
		readings []api.Reading
		left     []int
	}{
		{nil, nil, list(0, 1, 2, 3)}, {list(), []api.Reading{}, list(0, 1, 2, 3)}, {list(0), []api.Reading{failed()}, list(0, 1, 2, 3)}, {list(0), []api.Reading{nothing()}, list(2, 3)},
		{list(0), []api.Reading{value(57)}, list(0)}, {list(0), []api.Reading{value(58)}, list(1)}, {list(0), []api.Reading{value(63)}, list(1)}, {list(0), []api.Reading{value(64)}, nil}, {list(0), []api.Reading{value(88)}, list(2)}, {list(0), []api.Reading{value(112)}, list(2)}, {list(0), []api.Reading{value(113)}, nil}, {list(0), []api.Reading{value(0)}, nil},
		{list(1), []api.Reading{nothing()}, list(0)}, {list(1), []api.Reading{value(0)}, list(1, 2, 3)}, {list(1), []api.Reading{value(-1000)}, list(1, 2, 3)}, {list(1), []api.Reading{value(1001)}, nil}, {list(1), []api.Reading{failed()}, list(0, 1, 2, 3)},
		{list(0, 1), []api.Reading{nothing(), value(0)}, list(2, 3)}, {list(0, 1), []api.Reading{value(60), nothing()}, nil}, {list(0, 1), []api.Reading{value(50), nothing()}, list(0)}, {list(0, 1), []api.Reading{failed(), nothing()}, list(0)}, {list(0, 1), []api.Reading{value(60), failed()}, list(1)},
		{list(0), []api.Reading{{Is: api.ReadFailed, Value: 60}}, list(0, 1, 2, 3)}, {list(0), []api.Reading{{Is: api.ReadNothing, Value: 60}}, list(2, 3)}, {list(0), []api.Reading{value(most)}, nil}, {list(0), []api.Reading{value(least)}, nil},
	} {
		if left, e := w.left(c.chosen, c.readings); !slices.Equal(left, c.left) || e != api.OK {
			t.Error(i, left, e)
		}
	}
	w.set = nil
	if left, e := w.left(list(0), []api.Reading{value(60)}); len(left) > 0 || e != api.OK {
		t.Error(left, e)
	}
}

func TestP6_4LeftErrors(t *testing.T) {
	w := scene{heaven(), api.Drift{}, 0, example(), plan(radar(), telescope())}
	for i, c := range []struct {
		chosen   []int
		readings []api.Reading
		e        api.Errno
	}{
		{list(-1), nil, api.ErrMissing}, {list(2), nil, api.ErrMissing}, {list(0, 0), nil, api.ErrMissing}, {list(1, 0), nil, api.ErrMissing}, {list(0, 1, 2), nil, api.ErrMissing}, {list(0, 2), []api.Reading{{Is: 3}, {}}, api.ErrMissing},
		{list(0), nil, api.ErrRange}, {nil, []api.Reading{failed()}, api.ErrRange}, {list(0, 1), []api.Reading{failed()}, api.ErrRange}, {list(0, 1), []api.Reading{failed(), failed(), failed()}, api.ErrRange},
		{list(0, 1), []api.Reading{failed(), {Is: 3}}, api.ErrRange}, {list(0, 1), []api.Reading{{Is: -1}, failed()}, api.ErrRange}, {list(0, 1), []api.Reading{failed(), nothing()}, api.OK},
	} {
		if left, e := w.left(c.chosen, c.readings); e != c.e || e != api.OK && len(left) > 0 {
			t.Error(i, left, e)
		}
	}
}

// TestP6_4Ticks looks at cells that move, at several ticks.
func TestP6_4Ticks(t *testing.T) {
	type offer = api.Offer
	later := func(tick int64) offer { return with(radar(), func(o *offer) { o.Tick = tick }) }
	set := []api.Box{{X: of(10, 10), U: of(5, 5)}, {X: of(20, 20), U: of(4, 4)}}
	w := scene{heaven(), api.Drift{}, 3, set, plan(later(8), later(3), later(20), later(6))}
	for i, c := range []struct {
		offer int
		m     int64
		left  []int
	}{{1, 10, list(0)}, {1, 20, list(1)}, {0, 33, list(0)}, {0, 38, list(1)}, {0, 37, list(0)}, {3, 25, list(0)}, {3, 32, list(1)}, {3, 28, nil}, {2, 90, list(1)}, {2, 93, list(0)}, {2, 95, list(0)}} {
		if left, e := w.left(list(c.offer), []api.Reading{value(c.m)}); !slices.Equal(left, c.left) || e != api.OK {
			t.Error(i, left, e)
		}
	}
	w.d.Gas = 1 // at the tick 6 the first one is at 19 to 31, the second one at 26 to 38
	if left, e := w.left(list(3), []api.Reading{value(17)}); !slices.Equal(left, list(0)) || e != api.OK {
		t.Error(left, e)
	}
	if left, e := w.left(list(3), []api.Reading{value(24)}); !slices.Equal(left, list(0, 1)) || e != api.OK {
		t.Error(left, e)
	}
}
