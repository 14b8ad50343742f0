package meet_test

import (
	"slices"
	"testing"

	"bolide/api"
	"bolide/meet"
)

// TestP5_2Examples has the rows of the chapter's examples, and others of that world.
func TestP5_2Examples(t *testing.T) {
	w := world()
	for i, c := range []struct {
		gas   int64
		tick  int64
		b     api.Box
		ticks int
		want  api.Fate
	}{
		{0, 0, flat(0, 0, 0, 90, 0), 2, hit(0)},
		{0, 0, flat(0, 50, 50, 90, 0), 2, miss()},
		{0, 0, flat(0, 0, 16, 95, 0), 2, open(0)},
		{0, 0, flat(0, 0, 16, 95, 0), 400, open(0)},
		{0, 0, flat(0, 0, 8, 95, 0), 1, hit(0)},
		{0, 0, flat(0, 9, 16, 95, 0), 1, miss()},
		{0, 0, flat(0, 0, 0, 60, 0), 1, miss()},
		{0, 0, flat(0, 0, 0, 60, 0), 2, hit(1)},
		{0, 3, flat(0, 0, 0, 60, 0), 400, hit(1)},
		{0, 1, flat(0, 0, 0, 60, 0), 2, hit(1)},  // Home is at (120, 0), then at (100, 0): from (-60, 0) to (20, 0)
		{0, 1, flat(0, 0, 0, 110, 0), 1, hit(0)}, // up to (-10, 0)
		{0, 1, flat(0, 0, 0, 109, 0), 1, miss()},
		{0, 0, flat(-95, -40, 40, 95, 0), 2, miss()},
		{0, 0, flat(-95, -40, 40, 95, 0), 3, open(2)},
		{0, 0, flat(85, 0, 12, 15, 0), 1, open(0)},
		{0, 0, flat(85, -9, 9, 15, 0), 1, hit(0)},
		{1, 0, flat(0, 0, 0, 95, 0), 1, hit(0)},
		{5, 0, flat(0, 0, 0, 95, 0), 1, open(0)}, // it may end at (-10, -5)
		{0, 0, flat(0, 0, 0, 0, 0), 400, miss()},
		{0, 0, flat(100, 0, 0, 0, 0), 400, hit(0)},
		{0, end - 1, flat(0, 0, 0, 90, 0), 1, hit(0)},
	} {
		if got, e := meet.Find(w, api.Drift{Gas: c.gas}, c.tick, c.b, c.ticks); got != c.want || e != api.OK {
			t.Error(i, got, e)
		}
	}
}

// TestP5_2Later has a box that rests, and is clear of Home, then open, and surely hit in a later passage.
func TestP5_2Later(t *testing.T) {
	w := resting(10)
	w.Bodies[0].Track = []api.Vec{at(0, 50), at(0, 50), at(0, 14), at(0, 14), at(0, 0), at(0, 70)}
	for i, want := range []api.Fate{miss(), open(1), open(1), hit(3), hit(3), hit(3)} {
		if got, e := meet.Find(w, none(), 6, flat(0, -8, 8, 0, 0), i+1); got != want || e != api.OK {
			t.Error(i+1, got, e)
		}
	}
}

// TestP5_2Lost has boxes that leave the limits: that passage is not clear, and there are none after it.
func TestP5_2Lost(t *testing.T) {
	w := resting(10)
	w.Bodies[0].Track = []api.Vec{at(0, 0), at(0, 0), at(0, 0), at(place, 0)}
	for i, c := range []struct {
		tick  int64
		b     api.Box
		ticks int
		want  api.Fate
	}{
		{0, flat(place-15, 0, 0, 10, 0), 1, miss()},
		{0, flat(place-15, 0, 0, 10, 0), 2, open(1)},
		{0, flat(place-15, 0, 0, 10, 0), 400, open(1)}, // Home comes there in the passage 2, but it is lost then
		{2, flat(place-15, 0, 0, 10, 0), 1, hit(0)},
		{2, flat(place-5, 0, 0, 10, 0), 1, open(0)}, // it would hit on its way, but has no areas
		{0, flat(-place, 0, 0, -1, 0), 3, open(0)},
		{0, flat(0, place, place, 0, 1), 3, open(0)},
		{0, flat(place-20, 0, 0, 10, 0), 2, miss()},
		{0, flat(place-20, 0, 0, 10, 0), 3, open(2)},
		{0, flat(0, 0, 0, speed, 0), 400, hit(0)}, // and is lost later
		{0, flat(0, 0, 16, speed, 0), 400, open(0)},
		{0, flat(0, 17, 17, speed, 0), 31, miss()},
		{0, flat(0, 17, 17, speed, 0), 400, open(32)},
	} {
		if got, e := meet.Find(w, none(), c.tick, c.b, c.ticks); got != c.want || e != api.OK {
			t.Error(i, got, e)
		}
	}
}

// TestP5_2Random holds fates against the chapter's words.
func TestP5_2Random(t *testing.T) {
	d := draw(52)
	count := map[int]int{}
	later := 0
	for range 20000 {
		s := d.scene(0)
		b := d.box(s)
		want := fateOf(s, b)
		if got, e := meet.Find(s.w, s.d, s.tick, b, s.ticks); got != want || e != api.OK {
			t.Fatal(s, b, got, e, want)
		}
		count[want.Kind]++
		if want.Passage > 0 {
			later++
		}
	}
	if count[api.FateMiss] < 2000 || count[api.FateHit] < 2000 || count[api.FateOpen] < 2000 || later < 2000 {
		t.Error("too few cases", count, later)
	}
}

// asked are all functions that have the question, with other arguments that are right.
func asked() map[string]func(w api.World, d api.Drift, tick int64, b api.Box, ticks int) api.Errno {
	return map[string]func(w api.World, d api.Drift, tick int64, b api.Box, ticks int) api.Errno{
		"Find": func(w api.World, d api.Drift, tick int64, b api.Box, ticks int) api.Errno {
			f, e := meet.Find(w, d, tick, b, ticks)
			return zero(f == (api.Fate{}), e)
		},
		"Cover": func(w api.World, d api.Drift, tick int64, b api.Box, ticks int) api.Errno {
			l, e := meet.Cover(w, d, tick, b, ticks, 1)
			return zero(len(l) == 0, e)
		},
		"Excluded": func(w api.World, d api.Drift, tick int64, b api.Box, ticks int) api.Errno {
			is, e := meet.Excluded(w, d, tick, boxes(b), ticks, 1)
			return zero(!is, e)
		},
		"Odds": func(w api.World, d api.Drift, tick int64, b api.Box, ticks int) api.Errno {
			c, e := meet.Odds(w, d, tick, boxes(b), []int64{1}, ticks)
			return zero(c == (api.Chance{}), e)
		},
		"Returns": func(w api.World, d api.Drift, tick int64, b api.Box, ticks int) api.Errno {
			l, e := meet.Returns(w, d, tick, b, ticks, 1)
			return zero(len(l) == 0, e)
		},
		"Keyholes": func(w api.World, d api.Drift, tick int64, b api.Box, ticks int) api.Errno {
			l, e := meet.Keyholes(w, d, tick, boxes(b), ticks, 1)
			return zero(len(l) == 0, e)
		},
	}
}

// zero returns an error; a wrong one if it comes with another result than zero.
func zero(isZero bool, e api.Errno) api.Errno {
	if e != api.OK && !isZero {
		return api.ErrNil
	}
	return e
}

// TestP5_2Question has the errors of the question, and that of the box, in their order.
func TestP5_2Question(t *testing.T) {
	w, b, bad := world(), flat(0, 0, 0, 90, 0), flat(0, 1, 0, 90, 0)
	wrong := api.Drift{Light: of(1, 0)}
	for name, f := range asked() {
		for i, c := range []struct {
			w     api.World
			d     api.Drift
			tick  int64
			b     api.Box
			ticks int
			want  api.Errno
		}{
			{w, none(), 0, b, 1, api.OK},
			{w, none(), 0, b, 400, api.OK},
			{w, none(), 0, b, 401, api.ErrRange},
			{w, none(), 0, b, 0, api.ErrRange},
			{w, none(), 0, b, -1, api.ErrRange},
			{w, none(), 0, b, int(most), api.ErrRange},
			{w, none(), 0, b, int(least), api.ErrRange},
			{w, none(), -1, b, 1, api.ErrRange},
			{w, none(), least, b, 1, api.ErrRange},
			{w, none(), end - 1, b, 1, api.OK},
			{w, none(), end - 1, b, 2, api.ErrRange},
			{w, none(), end - 400, b, 400, api.OK},
			{w, none(), end - 399, b, 400, api.ErrRange},
			{w, none(), end, b, 1, api.ErrRange},
			{w, none(), most, b, 400, api.ErrRange},
			{w, none(), 0, bad, 1, api.ErrRange},
			{w, none(), 0, box(0, 0, 0, 0, 0, speed+1, 0, 0), 1, api.ErrRange},
			{w, none(), 0, box(-place-1, 0, 0, 0, 0, 0, 0, 0), 1, api.ErrRange},
			{w, wrong, -1, bad, 0, api.ErrOrder},
			{w, api.Drift{Gas: -1}, 0, b, 1, api.ErrRange},
			{w, api.Drift{Heat: of(0, 1001)}, 0, b, 1, api.ErrRange},
			{api.World{}, wrong, -1, bad, 0, api.ErrShort},
			{api.World{Bodies: w.Bodies, Home: 2}, wrong, -1, bad, 0, api.ErrMissing},
			{api.World{Bodies: w.Bodies, Home: -1}, wrong, -1, bad, 0, api.ErrMissing},
			{api.World{Bodies: make([]api.Body, 9)}, wrong, 0, b, 1, api.ErrFull},
			{api.World{Bodies: []api.Body{{Mu: -1}}}, wrong, 0, b, 1, api.ErrRange},
		} {
			if e := f(c.w, c.d, c.tick, c.b, c.ticks); e != c.want {
				t.Error(name, i, e)
			}
		}
	}
}

// TestP5_2Before has the errors of sets that come after those of the question.
func TestP5_2Before(t *testing.T) {
	w, many := world(), make([]api.Box, 513)
	for i, c := range []struct {
		d    api.Drift
		tick int64
		l    []api.Box
		want api.Errno
	}{
		{api.Drift{Light: of(1, 0)}, 0, many, api.ErrOrder},
		{none(), -1, many, api.ErrRange},
		{none(), 0, many, api.ErrFull},
		{none(), 0, slices.Concat(many, boxes(flat(0, 1, 0, 0, 0))), api.ErrFull},
		{none(), 0, many[1:], api.OK},
		{none(), 0, boxes(many[0], flat(0, 1, 0, 0, 0)), api.ErrRange},
	} {
		weights := make([]int64, len(c.l))
		if is, e := meet.Excluded(w, c.d, c.tick, c.l, 1, 0); e != c.want || is != (e == api.OK) {
			t.Error(i, is, e)
		}
		if got, e := meet.Odds(w, c.d, c.tick, c.l, weights, 1); e != c.want || got != (api.Chance{}) {
			t.Error(i, got, e)
		}
		if got, e := meet.Keyholes(w, c.d, c.tick, c.l, 1, 0); e != c.want || len(got) > 0 {
			t.Error(i, got, e)
		}
		// The errors of sets come before those of what else is asked.
		if c.want == api.OK {
			continue
		}
		if _, e := meet.Excluded(w, c.d, c.tick, c.l, 1, -1); e != c.want {
			t.Error(i, e)
		}
		if _, e := meet.Odds(w, c.d, c.tick, c.l, nil, 1); e != c.want {
			t.Error(i, e)
		}
		if _, e := meet.Keyholes(w, c.d, c.tick, c.l, 1, -1); e != c.want {
			t.Error(i, e)
		}
	}
}
