package meet_test

import (
	"slices"
	"testing"

	"bolide/api"
	"bolide/meet"
	"bolide/orbit"
)

// skew is a box of two states that go by a Home of the radius 0 on both sides: it is open, and both states miss.
func skew() api.Box { return box(-2, -1, -1, -1, 3, 3, 2, 2) }

// whole is a box with a great many states, nearly all of whose cells stay open for many rounds.
func whole() api.Box { return box(-300, 300, -300, 300, -100, 100, -100, 100) }

func TestP5_3Examples(t *testing.T) {
	wide := flat(0, 0, 16, 95, 0)
	stuck := flat(0, 0, 0, 95, 0)
	for i, c := range []struct {
		w      api.World
		gas    int64
		b      api.Box
		rounds int
		want   []api.Cell
	}{
		{world(), 0, wide, 0, []api.Cell{{Box: wide, Fate: open(0)}}},
		{world(), 0, wide, 1, []api.Cell{{Box: flat(0, 0, 8, 95, 0), Fate: hit(0)}, {Box: flat(0, 9, 16, 95, 0), Fate: miss()}}},
		{world(), 0, wide, 2, []api.Cell{{Box: flat(0, 0, 8, 95, 0), Fate: hit(0)}, {Box: flat(0, 9, 16, 95, 0), Fate: miss()}}},
		{world(), 0, wide, 12, []api.Cell{{Box: flat(0, 0, 8, 95, 0), Fate: hit(0)}, {Box: flat(0, 9, 16, 95, 0), Fate: miss()}}},
		{world(), 0, flat(0, 0, 24, 95, 0), 2, []api.Cell{
			{Box: flat(0, 0, 6, 95, 0), Fate: hit(0)}, {Box: flat(0, 7, 12, 95, 0), Fate: open(0)}, {Box: flat(0, 13, 24, 95, 0), Fate: miss()},
		}},
		{world(), 0, flat(0, 0, 24, 95, 0), 4, []api.Cell{
			{Box: flat(0, 0, 6, 95, 0), Fate: hit(0)}, {Box: flat(0, 7, 8, 95, 0), Fate: hit(0)}, {Box: flat(0, 9, 9, 95, 0), Fate: miss()},
			{Box: flat(0, 10, 12, 95, 0), Fate: miss()}, {Box: flat(0, 13, 24, 95, 0), Fate: miss()},
		}},
		{world(), 0, flat(0, 0, 8, 95, 0), 5, []api.Cell{{Box: flat(0, 0, 8, 95, 0), Fate: hit(0)}}},
		{world(), 0, flat(0, 9, 16, 95, 0), 5, []api.Cell{{Box: flat(0, 9, 16, 95, 0), Fate: miss()}}},
		{world(), 5, stuck, 12, []api.Cell{{Box: stuck, Fate: open(0)}}}, // one state cannot be split
		{resting(0), 0, skew(), 0, []api.Cell{{Box: skew(), Fate: open(0)}}},
		{resting(0), 0, skew(), 1, []api.Cell{{Box: box(-2, -2, -1, -1, 3, 3, 2, 2), Fate: miss()}, {Box: box(-1, -1, -1, -1, 3, 3, 2, 2), Fate: miss()}}},
	} {
		if got, e := meet.Cover(c.w, api.Drift{Gas: c.gas}, 0, c.b, 1, c.rounds); !slices.Equal(got, c.want) || e != api.OK {
			t.Error(i, got, e)
		}
	}
}

// TestP5_3Full has covers for which a round would make more than 512 cells.
func TestP5_3Full(t *testing.T) {
	for rounds, want := range map[int]int{0: 1, 1: 2, 5: 32, 8: 256, 9: 512, 10: 512, 12: 512} {
		got, e := meet.Cover(resting(1000), none(), 0, box(0, 5000, 0, 0, 0, 0, -5000, 5000), 1, rounds)
		if len(got) > want || e != api.OK {
			t.Error(rounds, len(got), e)
		}
		got, e = meet.Cover(resting(10), api.Drift{Gas: 1000}, 0, whole(), 3, rounds)
		if len(got) != want || e != api.OK {
			t.Error(rounds, len(got), e)
		}
	}
	// Here each round makes fewer than twice as many: the last one that is done ends below 512.
	s := scene{resting(40), none(), 0, 2, nil}
	before := 0
	for rounds := range 13 {
		want := coverOf(s, whole(), rounds)
		got, e := meet.Cover(s.w, s.d, s.tick, whole(), s.ticks, rounds)
		if !slices.Equal(got, want) || e != api.OK {
			t.Error(rounds, len(got), len(want), e)
		}
		if rounds == 12 && (len(got) != before || len(got) == 512 || len(got) < 300) {
			t.Error("not full", len(got), before)
		}
		before = len(got)
	}
}

// TestP5_3Random holds covers and exclusions against the chapter's words.
func TestP5_3Random(t *testing.T) {
	d := draw(53)
	excluded, mixed := map[bool]int{}, 0
	for range 6000 {
		s, rounds := d.scene(3), int(d.below(7))
		all := true
		for _, b := range s.l {
			want := coverOf(s, b, rounds)
			if got, e := meet.Cover(s.w, s.d, s.tick, b, s.ticks, rounds); !slices.Equal(got, want) || e != api.OK {
				t.Fatal(s, b, rounds, got, want, e)
			}
			misses := 0
			for _, c := range want {
				if c.Fate.Kind == api.FateMiss {
					misses++
				}
			}
			all = all && misses == len(want)
			if misses > 0 && misses < len(want) {
				mixed++
			}
		}
		if got, e := meet.Excluded(s.w, s.d, s.tick, s.l, s.ticks, rounds); got != all || e != api.OK {
			t.Fatal(s, rounds, got, e)
		}
		excluded[all && len(s.l) > 0]++
	}
	if excluded[true] < 300 || excluded[false] < 300 || mixed < 300 {
		t.Error("too few cases", excluded, mixed)
	}
}

func TestP5_3Excluded(t *testing.T) {
	w, misses, hits, half := world(), flat(0, 9, 16, 95, 0), flat(0, 0, 8, 95, 0), flat(0, 0, 16, 95, 0)
	for i, c := range []struct {
		w      api.World
		l      []api.Box
		rounds int
		want   bool
	}{
		{w, boxes(misses), 0, true},
		{w, boxes(hits), 0, false},
		{w, boxes(half), 0, false},
		{w, boxes(half), 12, false},
		{w, boxes(misses, misses, misses), 3, true},
		{w, boxes(misses, hits, misses), 0, false},
		{w, boxes(misses, misses, hits), 0, false},
		{w, boxes(hits, misses), 12, false},
		{w, nil, 0, true},
		{resting(0), boxes(skew()), 0, false},
		{resting(0), boxes(skew()), 1, true},
		{resting(0), boxes(skew()), 12, true},
		{resting(0), boxes(alone(state(place, 0, 1, 0))), 12, false}, // it is lost
	} {
		if got, e := meet.Excluded(c.w, none(), 0, c.l, 1, c.rounds); got != c.want || e != api.OK {
			t.Error(i, got, e)
		}
	}
}

func TestP5_3Rounds(t *testing.T) {
	w, b := world(), flat(0, 9, 16, 95, 0)
	for rounds, want := range map[int]api.Errno{-1: api.ErrRange, 0: api.OK, 12: api.OK, 13: api.ErrRange, int(least): api.ErrRange, int(most): api.ErrRange} {
		if l, e := meet.Cover(w, none(), 0, b, 1, rounds); e != want || (len(l) == 0) != (e != api.OK) {
			t.Error(rounds, l, e)
		}
		if is, e := meet.Excluded(w, none(), 0, boxes(b), 1, rounds); e != want || is != (e == api.OK) {
			t.Error(rounds, is, e)
		}
	}
	// The rounds are checked after the world and the drift.
	if _, e := meet.Cover(api.World{}, none(), 0, b, 1, -1); e != api.ErrShort {
		t.Error(e)
	}
	if _, e := meet.Excluded(w, api.Drift{Light: of(1, 0)}, 0, nil, 1, 13); e != api.ErrOrder {
		t.Error(e)
	}
}

func TestP5_4Examples(t *testing.T) {
	w := world()
	hits, misses, half := flat(0, 0, 8, 95, 0), flat(0, 9, 16, 95, 0), flat(0, 0, 16, 95, 0)
	for i, c := range []struct {
		l       []api.Box
		weights []int64
		want    api.Chance
		e       api.Errno
	}{
		{boxes(hits, misses, half), []int64{2, 3, 5}, api.Chance{Least: 2, Most: 7, All: 10}, api.OK},
		{boxes(half, hits, half, misses, hits), []int64{1, 10, 100, 1000, 10000}, api.Chance{Least: 10010, Most: 10111, All: 11111}, api.OK},
		{boxes(hits), []int64{7}, api.Chance{Least: 7, Most: 7, All: 7}, api.OK},
		{boxes(misses), []int64{7}, api.Chance{All: 7}, api.OK},
		{boxes(half), []int64{7}, api.Chance{Most: 7, All: 7}, api.OK},
		{boxes(hits), []int64{0}, api.Chance{}, api.OK},
		{nil, nil, api.Chance{}, api.OK},
		{boxes(hits, half), []int64{heavy, heavy}, api.Chance{Least: heavy, Most: 2 * heavy, All: 2 * heavy}, api.OK},
		{boxes(hits, half), []int64{heavy, heavy + 1}, api.Chance{}, api.ErrRange},
		{boxes(hits, half), []int64{-1, 1}, api.Chance{}, api.ErrRange},
		{boxes(hits, misses), []int64{1, -1}, api.Chance{}, api.ErrRange},
		{boxes(hits, half), []int64{least, most}, api.Chance{}, api.ErrRange},
		{boxes(hits, half), []int64{1}, api.Chance{}, api.ErrForm},
		{boxes(hits, half), nil, api.Chance{}, api.ErrForm},
		{boxes(hits, half), []int64{-1, 1, 2}, api.Chance{}, api.ErrForm},
		{nil, []int64{1}, api.Chance{}, api.ErrForm},
		{boxes(flat(0, 1, 0, 0, 0)), nil, api.Chance{}, api.ErrRange},
	} {
		if got, e := meet.Odds(w, none(), 0, c.l, c.weights, 1); got != c.want || e != c.e {
			t.Error(i, got, e)
		}
	}
	many := slices.Repeat(boxes(hits), 512)
	if got, e := meet.Odds(w, none(), 0, many, slices.Repeat([]int64{heavy}, 512), 1); got != (api.Chance{Least: 512 * heavy, Most: 512 * heavy, All: 512 * heavy}) || e != api.OK {
		t.Error(got, e)
	}
}

// TestP5_4Random holds chances against fates.
func TestP5_4Random(t *testing.T) {
	d := draw(54)
	for range 3000 {
		s := d.scene(5)
		var weights []int64
		var want api.Chance
		for _, b := range s.l {
			n := d.below(1 << d.below(41))
			weights = append(weights, n)
			want.All += n
			switch fateOf(s, b).Kind {
			case api.FateHit:
				want.Least += n
				want.Most += n
			case api.FateOpen:
				want.Most += n
			}
		}
		if got, e := meet.Odds(s.w, s.d, s.tick, s.l, weights, s.ticks); got != want || e != api.OK {
			t.Fatal(s, weights, got, want, e)
		}
	}
}

// TestDocExample has the rows of meet in the document's own table of examples.
func TestDocExample(t *testing.T) {
	home := api.World{Bodies: []api.Body{{Radius: 10, Track: []api.Vec{at(100, 0)}}}}
	hits, misses := flat(0, 0, 8, 95, 0), flat(0, 9, 16, 95, 0)
	if got, e := meet.Find(home, none(), 0, hits, 1); got.Kind != api.FateHit || e != api.OK {
		t.Error(got, e)
	}
	if got, e := meet.Find(home, none(), 0, misses, 1); got.Kind != api.FateMiss || e != api.OK {
		t.Error(got, e)
	}
	both, ok := orbit.Hull(boxes(hits, misses))
	got, e := meet.Odds(home, none(), 0, boxes(hits, misses, both), []int64{2, 3, 5}, 1)
	if got != (api.Chance{Least: 2, Most: 7, All: 10}) || e != api.OK || !ok {
		t.Error(got, e, both, ok)
	}
}
