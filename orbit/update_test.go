package orbit_test

import (
	"slices"
	"testing"

	"bolide/api"
	"bolide/orbit"
)

// halves are the cells 0 to 5 and 6 to 10 of the chapter's box B.
func halves() []api.Box {
	return boxes(box(0, 5, 0, 3, 5, 5, -2, 0), box(6, 10, 0, 3, 5, 5, -2, 0))
}

// skyOf returns the sky of the examples, changed.
func skyOf(change func(s *api.Sky)) api.Sky {
	s := heaven()
	change(&s)
	return s
}

// badSkies are skies that are not valid, with their errors.
func badSkies() map[api.Errno]api.Sky {
	return map[api.Errno]api.Sky{
		api.ErrShort:   {},
		api.ErrMissing: skyOf(func(s *api.Sky) { s.World.Home = 1 }),
		api.ErrRange:   skyOf(func(s *api.Sky) { s.Stations[0].Off.X = most }),
		api.ErrOrder:   skyOf(func(s *api.Sky) { s.Catalogs[0].Version = 0 }),
		api.ErrFull:    skyOf(func(s *api.Sky) { s.Catalogs = make([]api.Catalog, 9) }),
	}
}

// badSights are sights that are not valid, with their errors.
func badSights() map[api.Errno]api.Sight {
	far := distance(0, 0, 1<<27+1)
	lost := distance(0, 0, 5)
	lost.Station = 2
	return map[api.Errno]api.Sight{api.ErrKind: {Tick: -1}, api.ErrRange: far, api.ErrMissing: lost}
}

// lots is n ranges that exclude nothing near.
func lots(n int) []api.Sight { return slices.Repeat([]api.Sight{distance(0, 0, 1<<27)}, n) }

func TestP4_5Filter(t *testing.T) {
	s := heaven()
	first, second := halves()[:1], halves()[1:]
	angle := api.Sight{Kind: api.SightAngle, Station: 1, Catalog: 1, Dir: at(1, 0)}
	empty := api.Sight{Kind: api.SightEmpty, Station: 1, Catalog: 1, Dir: at(2, 1), Err: 500000, Hi: 11}
	for name, c := range map[string]struct {
		tick   int64
		l      []api.Box
		sights []api.Sight
		want   []api.Box
	}{
		"the example":         {0, halves(), []api.Sight{distance(0, 0, 5)}, first},
		"far away":            {0, halves(), []api.Sight{distance(0, 6, 100)}, second},
		"both":                {0, halves(), []api.Sight{distance(0, 5, 6)}, halves()},
		"none":                {0, halves(), []api.Sight{distance(0, 20, 30)}, nil},
		"no sights":           {0, halves(), nil, halves()},
		"another tick":        {1, halves(), []api.Sight{distance(0, 0, 5), distance(2, 0, 5)}, halves()},
		"this tick of many":   {2, halves(), []api.Sight{distance(0, 6, 100), distance(2, 0, 5), distance(3, 6, 100)}, first},
		"by both":             {0, halves(), []api.Sight{distance(0, 0, 5), distance(0, 6, 100)}, nil},
		"by the second one":   {0, halves(), []api.Sight{distance(0, 0, 100), distance(0, 6, 100)}, second},
		"an empty set":        {0, nil, []api.Sight{distance(0, 0, 5)}, nil},
		"the last tick":       {end, halves(), []api.Sight{distance(end, 0, 5)}, first},
		"equal boxes":         {0, boxes(first[0], second[0], first[0]), []api.Sight{distance(0, 0, 5)}, boxes(first[0], first[0])},
		"an angle":            {0, boxes(box(1, 9, 0, 3, 0, 0, 0, 0), box(1, 9, 1, 3, 0, 0, 0, 0), box(1, 9, -9, -1, 0, 0, 0, 0)), []api.Sight{angle}, boxes(box(1, 9, 0, 3, 0, 0, 0, 0))},
		"an empty look":       {0, boxes(box(9, 9, 3, 4, 0, 0, 0, 0), box(9, 10, 3, 5, 0, 0, 0, 0)), []api.Sight{empty}, boxes(box(9, 10, 3, 5, 0, 0, 0, 0))},
		"speeds do not count": {0, boxes(box(3, 3, 3, 3, -speed, speed, 7, 9)), []api.Sight{distance(0, 4, 5)}, boxes(box(3, 3, 3, 3, -speed, speed, 7, 9))},
		"512 boxes":           {0, many(512), []api.Sight{distance(0, 0, 99)}, many(100)},
		"64 sights":           {0, halves(), append(lots(63), distance(0, 0, 5)), first},
	} {
		if l, e := orbit.Filter(s, c.tick, c.l, c.sights); !slices.Equal(l, c.want) || e != api.OK {
			t.Error(name, l, e)
		}
	}
	// Home is where it is at the tick of the filter.
	sun := sunny()
	for tick, want := range map[int64][]api.Box{0: boxes(alone(state(100, 5, 0, 0))), 1: boxes(alone(state(5, 100, 0, 0))), 2: nil, 3: boxes(alone(state(100, 5, 0, 0)))} {
		l, e := orbit.Filter(sun, tick, boxes(alone(state(100, 5, 0, 0)), alone(state(5, 100, 0, 0))), []api.Sight{distance(tick, 5, 5)})
		if !slices.Equal(l, want) || e != api.OK {
			t.Error(tick, l, e)
		}
	}
}

// TestP4_5FilterErrors has the errors that Filter and Refine share.
func TestP4_5FilterErrors(t *testing.T) {
	type call struct {
		s      api.Sky
		tick   int64
		l      []api.Box
		sights []api.Sight
	}
	check := func(name string, c call, want api.Errno) {
		t.Helper()
		if l, e := orbit.Filter(c.s, c.tick, c.l, c.sights); len(l) > 0 || e != want {
			t.Error("Filter", name, l, e)
		}
		for _, rounds := range []int{0, 1, -1} {
			if l, e := orbit.Refine(c.s, c.tick, c.l, c.sights, rounds); len(l) > 0 || e != want {
				t.Error("Refine", name, l, e)
			}
		}
	}
	bad, wrong := badBoxes()[0], badSights()[api.ErrKind]
	for want, s := range badSkies() {
		check("sky first", call{s, -1, many(513), lots(65)}, want)
		check("sky", call{s, 0, nil, nil}, want)
	}
	for _, tick := range []int64{-1, end + 1, least, most} {
		check("tick first", call{heaven(), tick, many(513), lots(65)}, api.ErrRange)
		check("tick", call{heaven(), tick, halves(), nil}, api.ErrRange)
	}
	check("full first", call{heaven(), 0, append(many(512), bad), append(lots(64), wrong)}, api.ErrFull)
	check("bad first", call{heaven(), 0, boxes(example(), bad), lots(65)}, api.ErrRange)
	check("65 sights", call{heaven(), 0, halves(), append(lots(64), wrong)}, api.ErrFull)
	for want, x := range badSights() {
		check("a sight", call{heaven(), 0, halves(), []api.Sight{x}}, want)
		check("the last sight", call{heaven(), 0, halves(), append(lots(63), x)}, want)
		check("at another tick", call{heaven(), 7, halves(), []api.Sight{x}}, want)
		check("nothing to leave out", call{heaven(), 0, nil, []api.Sight{x}}, want)
		check("the first one", call{heaven(), 0, halves(), []api.Sight{lots(1)[0], x, wrong, {Kind: 1, Tick: -1}}}, want)
	}
}

func TestP4_5FilterFormula(t *testing.T) {
	draw := draw(51)
	left, out := 0, 0
	for range 20000 {
		s, tick, l := draw.sky(20, 30), draw.below(9), draw.boxes(6, 40, 9)
		sights := draw.sights(4, tick, 40)
		want := filterOf(s, tick, l, sights)
		if got, e := orbit.Filter(s, tick, l, sights); !slices.Equal(got, want) || e != api.OK {
			t.Fatal(s, tick, l, sights, got, e)
		}
		left, out = left+len(want), out+len(l)-len(want)
	}
	if left < 10000 || out < 5000 {
		t.Error("too few cases", left, out)
	}
}

func TestP4_5Refine(t *testing.T) {
	s, near := heaven(), []api.Sight{distance(0, 0, 2)}
	row := box(0, 7, 0, 0, 0, 0, 0, 0)
	part := func(lo, hi int64) api.Box { return box(lo, hi, 0, 0, 0, 0, 0, 0) }
	for name, c := range map[string]struct {
		tick   int64
		l      []api.Box
		sights []api.Sight
		rounds int
		want   []api.Box
	}{
		"no rounds":           {0, boxes(row, part(50, 60)), near, 0, boxes(row, part(50, 60))},
		"1":                   {0, boxes(row), near, 1, boxes(part(0, 3))},
		"2":                   {0, boxes(row), near, 2, boxes(part(0, 1), part(2, 3))},
		"3":                   {0, boxes(row), near, 3, boxes(part(0, 0), part(1, 1), part(2, 2))},
		"20":                  {0, boxes(row), near, 20, boxes(part(0, 0), part(1, 1), part(2, 2))},
		"no sights":           {0, boxes(row), nil, 2, boxes(part(0, 1), part(2, 3), part(4, 5), part(6, 7))},
		"another tick":        {1, boxes(row), near, 1, boxes(part(0, 3), part(4, 7))},
		"a state is filtered": {0, boxes(part(5, 5), part(1, 1)), near, 1, boxes(part(1, 1))},
		"in their places":     {0, boxes(part(1, 1), row, part(2, 2)), near, 1, boxes(part(1, 1), part(0, 3), part(2, 2))},
		"an empty set":        {0, nil, near, 5, nil},
		"512 states":          {0, many(512), near, 20, many(3)},
		"a round too much":    {0, append(many(511), part(0, 1)), near, 1, append(many(511), part(0, 1))},
		"just 512":            {0, append(many(510), part(0, 1)), near, 2, append(many(3), part(0, 0), part(1, 1))},
		"up to 512":           {0, append(many(510), part(0, 1)), nil, 20, append(many(510), part(0, 0), part(1, 1))},
	} {
		if l, e := orbit.Refine(s, c.tick, c.l, c.sights, c.rounds); !slices.Equal(l, c.want) || e != api.OK {
			t.Error(name, l, e)
		}
	}
	wide := box(0, 1<<20, 0, 0, 0, 0, 0, 0)
	for rounds, want := range map[int]int{8: 256, 9: 512, 10: 512, 20: 512} {
		if l, e := orbit.Refine(s, 0, boxes(wide), nil, rounds); len(l) != want || e != api.OK {
			t.Error(rounds, len(l), e)
		}
	}
	// With sights that leave one part only, all rounds are done.
	if l, e := orbit.Refine(s, 0, boxes(wide), near[:1], 20); !slices.Equal(l, boxes(part(0, 1), part(2, 2))) || e != api.OK {
		t.Error("20 rounds", l, e)
	}
}

func TestP4_5RefineErrors(t *testing.T) {
	for _, rounds := range []int{-1, 21, int(most), int(least)} {
		if l, e := orbit.Refine(heaven(), 0, halves(), nil, rounds); len(l) > 0 || e != api.ErrRange {
			t.Error(rounds, l, e)
		}
		if l, e := orbit.Refine(heaven(), 0, halves(), lots(65), rounds); len(l) > 0 || e != api.ErrFull {
			t.Error("sights first", rounds, l, e)
		}
	}
}

// refineOf is a set, refined, as the chapter writes it.
func refineOf(s api.Sky, tick int64, l []api.Box, sights []api.Sight, rounds int) []api.Box {
	for range rounds {
		var parts []api.Box
		for _, b := range l {
			parts = append(parts, partsOf(b)...)
		}
		if len(parts) > 512 {
			return l
		}
		l = filterOf(s, tick, parts, sights)
	}
	return l
}

func TestP4_5RefineFormula(t *testing.T) {
	draw := draw(52)
	full := 0
	for range 600 {
		s, tick, l := draw.sky(20, 30), draw.below(9), draw.boxes(4, 40, 9)
		sights, rounds := draw.sights(6, tick, 40), int(draw.below(14))
		want := refineOf(s, tick, l, sights, rounds)
		if got, e := orbit.Refine(s, tick, l, sights, rounds); !slices.Equal(got, want) || e != api.OK {
			t.Fatal(s, tick, l, sights, rounds, len(got), e)
		}
		if len(want) > 256 {
			full++
		}
	}
	if full < 20 {
		t.Error("too few full sets", full)
	}
}

func TestP4_6Update(t *testing.T) {
	s, d := heaven(), drift()
	for name, c := range map[string]struct {
		tick   int64
		l      []api.Box
		ticks  int
		sights []api.Sight
		want   []api.Box
	}{
		"no ticks":           {0, halves(), 0, []api.Sight{distance(0, 0, 5)}, halves()[:1]},
		"at the first tick":  {0, halves(), 1, []api.Sight{distance(0, 0, 5)}, boxes(box(4, 11, -3, 4, 4, 6, -3, 1))},
		"at the last tick":   {0, halves(), 1, []api.Sight{distance(1, 0, 9)}, boxes(box(4, 11, -3, 4, 4, 6, -3, 1))},
		"in between":         {3, halves(), 2, []api.Sight{distance(4, 0, 9)}, boxes(box(7, 18, -7, 6, 3, 7, -4, 2))},
		"before":             {3, halves(), 1, []api.Sight{distance(2, 0, 1)}, boxes(box(4, 11, -3, 4, 4, 6, -3, 1), box(10, 16, -3, 4, 4, 6, -3, 1))},
		"after":              {3, halves(), 1, []api.Sight{distance(5, 0, 1)}, boxes(box(4, 11, -3, 4, 4, 6, -3, 1), box(10, 16, -3, 4, 4, 6, -3, 1))},
		"in any order":       {0, halves(), 1, []api.Sight{distance(1, 0, 100), distance(0, 0, 5)}, boxes(box(4, 11, -3, 4, 4, 6, -3, 1))},
		"all are taken out":  {0, halves(), 5, []api.Sight{distance(1, 200, 300)}, nil},
		"nothing":            {0, nil, 400, []api.Sight{distance(1, 0, 9)}, nil},
		"over, but left out": {0, boxes(alone(state(place, 0, 1, 0)), alone(state(3, 4, 0, 0))), 1, []api.Sight{distance(0, 5, 5)}, boxes(box(2, 4, 3, 5, -1, 1, -1, 1))},
	} {
		if l, e := orbit.Update(s, d, c.tick, c.l, c.ticks, c.sights); !slices.Equal(l, c.want) || e != api.OK {
			t.Error(name, l, e)
		}
	}
	// A box that would be left out at the next tick is beyond the limits before that.
	over := boxes(alone(state(place, 0, 1, 0)))
	if l, e := orbit.Update(s, d, 0, over, 1, []api.Sight{distance(1, 0, 5)}); len(l) > 0 || e != api.ErrOver {
		t.Error("over", l, e)
	}
	// One that is left out after a tick is not stepped on.
	over[0].X = of(place-2, place-2)
	if l, e := orbit.Update(s, d, 0, over, 9, []api.Sight{distance(1, 0, 5)}); len(l) > 0 || e != api.OK {
		t.Error("left out", l, e)
	}
	if l, e := orbit.Update(s, d, 0, over, 9, []api.Sight{distance(2, 0, 5)}); len(l) > 0 || e != api.ErrOver {
		t.Error("left out too late", l, e)
	}
}

func TestP4_6UpdateErrors(t *testing.T) {
	type call struct {
		s      api.Sky
		d      api.Drift
		tick   int64
		l      []api.Box
		ticks  int
		sights []api.Sight
	}
	check := func(name string, c call, want api.Errno) {
		t.Helper()
		if l, e := orbit.Update(c.s, c.d, c.tick, c.l, c.ticks, c.sights); len(l) > 0 || e != want {
			t.Error(name, l, e)
		}
	}
	s, d, hot, bad, wrong := heaven(), drift(), api.Drift{Heat: of(1, 0)}, badBoxes()[0], badSights()[api.ErrKind]
	for want, s := range badSkies() {
		check("sky first", call{s, hot, -1, many(513), -1, lots(65)}, want)
		check("sky", call{s, d, 0, nil, 0, nil}, want)
	}
	for _, tick := range []int64{-1, 0} {
		check("drift first", call{s, hot, tick, many(513), -1, lots(65)}, api.ErrOrder)
	}
	check("drift", call{s, api.Drift{Gas: 1001}, 0, nil, 0, nil}, api.ErrRange)
	for _, n := range []struct {
		tick  int64
		ticks int
	}{{-1, 0}, {-1, 1}, {0, -1}, {0, 401}, {end, 1}, {end + 1, 0}, {end - 399, 400}, {least, 0}, {most, 400}, {0, int(most)}, {0, int(least)}} {
		check("ticks first", call{s, d, n.tick, many(513), n.ticks, lots(65)}, api.ErrRange)
		check("ticks", call{s, d, n.tick, nil, n.ticks, nil}, api.ErrRange)
	}
	check("at the end", call{s, d, end, nil, 0, nil}, api.OK)
	check("to the end", call{s, d, end - 400, nil, 400, nil}, api.OK)
	check("full first", call{s, d, 0, append(many(512), bad), 1, lots(65)}, api.ErrFull)
	check("bad first", call{s, d, 0, boxes(example(), bad), 1, lots(65)}, api.ErrRange)
	check("65 sights", call{s, d, 0, overs(), 1, append(lots(64), wrong)}, api.ErrFull)
	for want, x := range badSights() {
		check("a sight before over", call{s, d, 0, overs(), 1, []api.Sight{x}}, want)
		check("a sight at another tick", call{s, d, 9, halves(), 1, append(lots(63), x)}, want)
	}
	for _, b := range overs() {
		check("over", call{s, d, 0, boxes(b), 1, nil}, api.ErrOver)
		check("over with others", call{s, d, 0, boxes(example(), b), 5, nil}, api.ErrOver)
	}
}

// TestP4_6UpdateFormula holds Update against the chapter's words, written anew.
func TestP4_6UpdateFormula(t *testing.T) {
	draw := draw(53)
	left, out, count := 0, 0, map[api.Errno]int{}
	for range 4000 {
		far := []int64{30, 300, 1 << 19}[draw.below(3)]
		s, d, tick, l := draw.sky(20, far), draw.drift(), draw.below(9), draw.boxes(5, far, far)
		sights, ticks := draw.sights(5, tick, 2*far), int(draw.below(7))
		want, e := updateOf(s, d, tick, l, ticks, sights)
		if got, f := orbit.Update(s, d, tick, l, ticks, sights); !slices.Equal(got, want) || f != e {
			t.Fatal(s, d, tick, l, ticks, sights, got, f)
		}
		count[e]++
		if e == api.OK {
			left, out = left+len(want), out+len(l)-len(want)
		}
	}
	if count[api.ErrOver] < 100 || left < 1000 || out < 1000 {
		t.Error("too few cases", count, left, out)
	}
}
