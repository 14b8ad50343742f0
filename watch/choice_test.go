package watch_test

import (
	"slices"
	"testing"

	"bolide/api"
	"bolide/watch"
)

// only is an offer without an error that sees just the cell of a row of which the number is i; it may fail.
func only(i int64) api.Offer {
	o := telescope()
	o.Dir, o.Err, o.Far, o.Wide = at(0, 1), 0, 1, 0
	o.Station = int(i) + 2
	return o
}

// spied is a sky like S, with a station below each cell of a row of n.
func spied(n int64) api.Sky {
	s := heaven()
	for i := range n {
		s.Stations = append(s.Stations, api.Station{ID: int(i) + 2, Off: at(100+100*i, -1)})
	}
	return s
}

// upTo is a radar, without an error, that sees as far as a distance; it may fail.
func upTo(far int64) api.Offer {
	o := radar()
	o.Err, o.Far, o.Sure = 500000, far, false
	return o
}

func sure(o api.Offer) api.Offer {
	o.Sure = true
	return o
}

func priced(o api.Offer, cost int) api.Offer {
	o.Cost = cost
	return o
}

func TestP6_4Worst(t *testing.T) {
	four := row(4)
	halves := upTo(250) // tells the first two from the last two, without values
	for i, c := range []struct {
		set    []api.Box
		offers []api.Offer
		chosen []int
		fails  int
		n      int
	}{
		{example(), plan(radar()), list(0), 3, 1}, {example(), plan(radar()), nil, 3, 2}, {example(), nil, nil, 0, 2}, {nil, plan(radar()), list(0), 0, 0},
		{four, plan(halves), list(0), 0, 2}, {four, plan(halves), list(0), 1, 4}, {four, plan(sure(halves)), list(0), 1, 2}, {four, plan(halves), nil, 0, 4},
		{four, plan(upTo(150)), list(0), 0, 3}, {four, plan(upTo(150), upTo(350)), list(0, 1), 0, 2}, {four, plan(upTo(150), upTo(350)), list(0, 1), 1, 3}, {four, plan(upTo(150), upTo(350)), list(0, 1), 2, 4},
		{four, plan(upTo(150), upTo(250), upTo(350)), list(0, 1, 2), 0, 1}, {four, plan(upTo(150), upTo(250), upTo(350)), list(0, 1, 2), 1, 2}, {four, plan(upTo(150), upTo(250), upTo(350)), list(0, 1, 2), 2, 3}, {four, plan(upTo(150), upTo(250), upTo(350)), list(0, 1, 2), 3, 4}, {four, plan(upTo(150), upTo(250), upTo(350)), list(0, 2), 0, 2},
		{four, plan(upTo(150), sure(upTo(250)), upTo(350)), list(0, 1, 2), 3, 2}, {four, plan(sure(upTo(150)), upTo(250), upTo(350)), list(0, 1, 2), 1, 2}, {four, plan(sure(upTo(150)), upTo(250), upTo(350)), list(0, 1, 2), 2, 3}, {four, plan(upTo(150), sure(upTo(250)), upTo(350)), list(0, 2), 1, 3},
		{four, plan(halves, halves), list(0, 1), 1, 2}, {four, plan(halves, halves), list(0, 1), 2, 4}, {four, plan(halves, halves, halves, halves), list(0, 1, 2, 3), 3, 2},
		{row(5), plan(only(0), only(1), only(2), only(3)), list(0, 1, 2, 3), 0, 1}, {row(5), plan(only(0), only(1), only(2), only(3)), list(0, 1, 2, 3), 3, 4},
	} {
		if n, e := watch.Worst(spied(5), api.Drift{}, 0, c.set, c.offers, c.chosen, c.fails); n != c.n || e != api.OK {
			t.Error(i, n, e)
		}
	}
}

func TestP6_4WorstErrors(t *testing.T) {
	w := scene{heaven(), api.Drift{}, 0, example(), plan(radar(), telescope())}
	for i, c := range []struct {
		chosen []int
		fails  int
		e      api.Errno
	}{
		{list(2), -1, api.ErrRange}, {list(2), 4, api.ErrRange}, {list(2), 0, api.ErrMissing}, {list(-1), 3, api.ErrMissing}, {list(0, 0), 0, api.ErrMissing}, {list(1, 0), 0, api.ErrMissing}, {list(0, 1, 1), 0, api.ErrMissing}, {list(0, 1, 2), 0, api.ErrMissing},
		{list(0, 1), 0, api.OK}, {list(1), 3, api.OK},
	} {
		if n, e := w.worst(c.chosen, c.fails); e != c.e || e != api.OK && n != 0 {
			t.Error(i, n, e)
		}
	}
	w.set = nil
	if n, e := w.worst(list(3), 0); n != 0 || e != api.ErrMissing {
		t.Error(n, e)
	}
}

func TestP6_5Best(t *testing.T) {
	type offer = api.Offer
	four := row(4)
	a, b, c := priced(upTo(150), 1), priced(upTo(250), 2), priced(upTo(350), 3)
	away := api.Moon{Body: 0} // in the place of the station: no telescope faces it
	sky := spied(5)
	sky.World.Bodies = append(sky.World.Bodies, api.Body{Track: []api.Vec{at(100, 500), at(0, 0)}})
	late := with(only(0), func(o *offer) { o.Tick = 1 })
	for i, k := range []struct {
		set           []api.Box
		offers        []offer
		m             api.Moon
		budget, fails int
		best          []int
		n             int
	}{
		{four, nil, away, 1000, 3, nil, 4}, {nil, plan(a, b), away, 1000, 0, nil, 0}, {nil, plan(priced(a, 0)), away, 1000, 0, nil, 0},
		{four, plan(a, b, c), away, 0, 0, nil, 4}, {four, plan(a, b, c), away, 1, 0, list(0), 3}, {four, plan(a, b, c), away, 2, 0, list(1), 2}, {four, plan(a, b, c), away, 3, 0, list(1), 2}, {four, plan(a, b, c), away, 5, 0, list(1), 2}, {four, plan(a, b, c), away, 6, 0, list(0, 1, 2), 1}, {four, plan(a, b, c), away, 1000, 0, list(0, 1, 2), 1},
		{four, plan(a, b, c), away, 6, 1, list(0, 1, 2), 2}, {four, plan(a, b, c), away, 5, 1, list(0, 1), 3}, {four, plan(a, b, c), away, 6, 3, nil, 4}, {four, plan(a, sure(b), c), away, 6, 3, list(1), 2}, {four, plan(a, sure(b), c), away, 6, 1, list(1), 2},
		{four, plan(priced(b, 1), priced(b, 1)), away, 9, 0, list(0), 2}, {four, plan(priced(b, 2), priced(b, 1)), away, 9, 0, list(1), 2}, {four, plan(priced(b, 2), priced(b, 1)), away, 9, 1, list(0, 1), 2}, {four, plan(priced(b, 0), priced(b, 0), priced(b, 0)), away, 9, 1, list(0, 1), 2},
		{four, plan(priced(a, 0), priced(b, 1)), away, 9, 0, list(0, 1), 2}, {four, plan(priced(b, 1), priced(a, 0), priced(c, 0)), away, 9, 0, list(0, 1, 2), 1},
		{four, plan(priced(upTo(1), 0), priced(b, 1)), away, 9, 0, list(0, 1), 2}, {four, plan(priced(b, 1), priced(upTo(1), 0)), away, 9, 0, list(0), 2}, {four, plan(priced(upTo(1), 0)), away, 9, 0, nil, 4}, // an offer that is for nothing, and says nothing, comes in front
		{row(5), plan(only(0), only(1)), away, 9, 0, list(0, 1), 3}, {row(5), plan(only(0), only(1)), api.Moon{Body: 1}, 9, 0, list(1), 4}, {row(5), plan(late, only(1)), api.Moon{Body: 1}, 9, 0, list(0, 1), 3}, {row(5), plan(only(0), only(1)), api.Moon{Body: 1, Glare: million}, 9, 0, nil, 5},
		{four, plan(a, b, c), api.Moon{Body: 1, Glare: million}, 2, 0, list(1), 2},
	} {
		if l, n, e := watch.Best(sky, api.Drift{}, 0, k.set, k.offers, k.m, k.budget, k.fails); !slices.Equal(l, k.best) || n != k.n || e != api.OK {
			t.Error(i, l, n, e)
		}
	}
}

func TestP6_5BestErrors(t *testing.T) {
	w := scene{heaven(), api.Drift{}, 0, example(), plan(radar(), telescope())}
	for i, c := range []struct {
		m             api.Moon
		budget, fails int
		e             api.Errno
	}{
		{api.Moon{Body: -1}, 0, -1, api.ErrRange}, {api.Moon{Body: 1}, 0, 4, api.ErrRange}, {api.Moon{Body: 1}, -1, 0, api.ErrRange}, {api.Moon{Body: 1}, 1001, 0, api.ErrRange},
		{api.Moon{Body: 1, Glare: -1}, 0, 0, api.ErrMissing}, {api.Moon{Body: -1, Glare: -1}, 1000, 3, api.ErrMissing}, {api.Moon{Glare: -1}, 0, 0, api.ErrRange}, {api.Moon{Glare: million + 1}, 0, 0, api.ErrRange},
		{api.Moon{Glare: million}, 1000, 3, api.OK}, {api.Moon{}, 0, 0, api.OK},
	} {
		if l, n, e := w.best(c.m, c.budget, c.fails); e != c.e || e != api.OK && (len(l) > 0 || n != 0) {
			t.Error(i, l, n, e)
		}
	}
}

// TestP6_5AsWritten holds Worst and Best against the chapter's words written anew.
func TestP6_5AsWritten(t *testing.T) {
	d := draw(65)
	chosen, partly := 0, 0
	for range 1500 {
		c := d.scene(8, 4)
		fails, budget := int(d.below(4)), int(d.below(14))
		l := d.choice(len(c.offers))
		if n, e := c.worst(l, fails); n != c.worstOf(nil, l, fails) || e != api.OK {
			t.Fatal(c, l, fails, n, e)
		}
		m := api.Moon{Body: int(d.below(3)), Glare: min(million, d.below(1<<d.below(21)))}
		best, fewest := c.bestOf(m, budget, fails)
		if l, n, e := c.best(m, budget, fails); !slices.Equal(l, best) || n != fewest || e != api.OK {
			t.Fatal(c, m, budget, fails, l, n, e, best, fewest)
		}
		if len(best) > 0 {
			chosen++
		}
		if len(best) > 1 && fails > 0 {
			partly++
		}
	}
	if chosen < 100 || partly < 10 {
		t.Error("too few cases", chosen, partly)
	}
}
