package meet_test

import (
	"slices"
	"testing"

	"bolide/api"
	"bolide/meet"
)

func TestP5_5Aim(t *testing.T) {
	for i, c := range []struct {
		a, b api.Area
		want api.Span
		ok   bool
	}{
		{spot(-100, 5), spot(-10, 5), of(-5, -5), true},
		{spot(-10, 5), spot(-100, 5), of(5, 5), true},
		{spot(3, 4), spot(3, 4), of(0, 0), false},
		{spot(-3, -4), spot(3, 4), of(0, 0), true},
		{spot(1, 0), spot(0, 1), of(0, 1), true},   // 1 by the root of 2, which is from 1 to 2
		{spot(7, 0), spot(5, 3), of(5, 7), true},   // 21 by the root of 13, from 3 to 4
		{spot(5, 3), spot(7, 0), of(-7, -5), true}, // the other way round
		{spot(0, 3), spot(4, 3), of(-3, -3), true},
		{area(-100, -100, 0, 3), area(-10, -10, 0, 3), of(-4, 1), true}, // -300 to 30, by 90
		{area(-100, -90, 2, 4), area(-10, 0, 2, 4), of(-5, -1), true},   // -400 to -140, by 80 to 101
		{area(0, 5, 0, 5), area(5, 9, 5, 9), of(0, 0), false},           // they have a place in common
		{area(0, 5, 0, 5), area(6, 9, 6, 9), of(-45, 45), true},         // by the root of 2, which is from 1 on
		{area(0, 5, 0, 0), area(6, 9, 0, 0), of(0, 0), true},
		{spot(-far, far), spot(far, far), of(-far, -far), true},
		{spot(far, -far), spot(far, far), of(far, far), true},
		{area(-far, far, -far, far), spot(0, 0), of(0, 0), false},
		{area(-far, far, -far, -far), area(-far, far, far, far), of(-far, far), true},
		{area(-far, far, -1, 0), area(-far, far, 1, 1), of(-2*far, 2*far), true},
		{spot(far+1, 0), spot(0, 0), of(0, 0), false},
		{spot(0, 0), spot(0, -far-1), of(0, 0), false},
		{area(1, 0, 0, 0), spot(5, 5), of(0, 0), false},
		{spot(5, 5), area(0, 0, 1, 0), of(0, 0), false},
		{spot(least, 0), spot(0, most), of(0, 0), false},
	} {
		if got, ok := meet.Aim(c.a, c.b); got != c.want || ok != c.ok {
			t.Error(i, got, ok)
		}
	}
}

// TestP5_5AimRandom holds aims against the chapter's words.
func TestP5_5AimRandom(t *testing.T) {
	d := draw(551)
	count := map[bool]int{}
	for range 50000 {
		n := int64(1) << (2 + d.below(27))
		wide := []int64{0, 3, n}[d.below(3)]
		a, b := d.area(n, wide), d.area(n, wide)
		want, is := aimOf(a, b)
		if got, ok := meet.Aim(a, b); got != want || ok != is {
			t.Fatal(a, b, got, ok, want, is)
		}
		count[is]++
	}
	if count[true] < 10000 || count[false] < 2000 {
		t.Error("too few cases", count)
	}
}

func TestP5_5Returns(t *testing.T) {
	w, b := world(), flat(0, 0, 0, 90, 0)
	for i, c := range []struct {
		tick  int64
		b     api.Box
		ticks int
		near  int64
		want  []int
	}{
		{0, b, 3, 20, []int{0, 1}},
		{0, b, 3, 10, []int{0, 1}},
		{0, b, 3, 9, []int{1}},
		{0, b, 3, 0, []int{1}},
		{0, b, 3, 60, []int{0, 1, 2}}, // at (60, 0) at the tick 2
		{0, b, 3, 59, []int{0, 1}},
		{0, b, 1, 9, nil},
		{0, b, 5, far, []int{0, 1, 2, 3, 4}},
		{0, flat(0, 8, 30, 90, 0), 3, 7, nil},
		{0, flat(0, 8, 30, 90, 0), 3, 8, []int{1}},
		{0, flat(100, 0, 0, 0, 0), 7, 0, []int{0, 1, 2, 3, 4, 5, 6}},
		{0, alone(state(place-15, 0, 10, 0)), 9, 0, []int{1}}, // it is lost in the passage 1
		{0, alone(state(place, 0, 10, 0)), 9, far, []int{0}},
	} {
		got, e := meet.Returns(w, none(), c.tick, c.b, c.ticks, c.near)
		if !slices.Equal(got, c.want) || e != api.OK {
			t.Error(i, got, e)
		}
	}
}

// TestP5_5Near has the errors because of near, after those of the question and of the boxes.
func TestP5_5Near(t *testing.T) {
	w, b := world(), flat(0, 0, 0, 90, 0)
	for near, want := range map[int64]api.Errno{-1: api.ErrRange, 0: api.OK, far: api.OK, far + 1: api.ErrRange, least: api.ErrRange, most: api.ErrRange} {
		if l, e := meet.Returns(w, none(), 0, b, 3, near); e != want || (len(l) == 0) != (e != api.OK) {
			t.Error(near, l, e)
		}
		if l, e := meet.Keyholes(w, none(), 0, boxes(b), 3, near); e != want || e != api.OK && len(l) > 0 {
			t.Error(near, l, e)
		}
	}
	if _, e := meet.Returns(api.World{}, none(), 0, b, 3, -1); e != api.ErrShort {
		t.Error(e)
	}
	if _, e := meet.Returns(w, api.Drift{Light: of(1, 0)}, 0, b, 3, -1); e != api.ErrOrder {
		t.Error(e)
	}
}

// TestP5_5Keyholes has the row of the chapter's examples, and others of that world, in which a body with a speed of 90 comes back if its Y is at most 10.
func TestP5_5Keyholes(t *testing.T) {
	w := world()
	y := func(n int64) api.Box { return flat(0, n, n, 90, 0) }
	later := flat(0, 0, 0, 30, 0)                               // within 20 of Home in the passage 2, and over it in the next one
	two := box(0, 0, 0, 3, 90, 90, 0, 0)                        // with an aim from -4 to 1
	lost := alone(state(place, 0, 1, 0))                        // in its first passage
	rests, once := flat(100, 0, 0, 0, 0), flat(0, 0, 0, 150, 0) // without an aim; over Home just once
	for i, c := range []struct {
		l     []api.Box
		ticks int
		near  int64
		want  []api.Keyhole
	}{
		{boxes(y(0)), 3, 20, []api.Keyhole{hole(0, 0, 0)}},
		{boxes(y(0)), 1, 20, nil},                               // nothing comes after the encounter
		{boxes(y(0)), 3, 9, nil},                                // the encounter is in the passage 1
		{boxes(y(10)), 3, 20, []api.Keyhole{hole(0, -10, -10)}}, // exactly at the radius
		{boxes(y(11)), 3, 20, nil},
		{boxes(y(-10)), 3, 20, []api.Keyhole{hole(0, 10, 10)}},
		{boxes(y(-11)), 3, 20, nil},
		{boxes(y(0), y(1)), 3, 20, []api.Keyhole{hole(0, -1, 0)}}, // they follow one another
		{boxes(y(1), y(0)), 3, 20, []api.Keyhole{hole(0, -1, 0)}},
		{boxes(y(0), y(2)), 3, 20, []api.Keyhole{hole(0, -2, -2), hole(0, 0, 0)}},
		{boxes(y(2), y(0)), 3, 20, []api.Keyhole{hole(0, -2, -2), hole(0, 0, 0)}},
		{boxes(y(0), y(2), y(1)), 3, 20, []api.Keyhole{hole(0, -2, 0)}},
		{boxes(y(0), y(0), y(0)), 3, 20, []api.Keyhole{hole(0, 0, 0)}},
		{boxes(two), 3, 20, []api.Keyhole{hole(0, -4, 1)}},
		{boxes(two, y(2)), 3, 20, []api.Keyhole{hole(0, -4, 1)}}, // inside
		{boxes(y(2), two), 3, 20, []api.Keyhole{hole(0, -4, 1)}},
		{boxes(two, y(5), y(-2), y(9), y(-4)), 3, 20, []api.Keyhole{hole(0, -9, -9), hole(0, -5, 2), hole(0, 4, 4)}},
		{boxes(later), 4, 20, []api.Keyhole{hole(2, 0, 0)}},
		{boxes(later), 3, 20, nil},
		{boxes(later, y(0)), 4, 20, []api.Keyhole{hole(0, 0, 0), hole(2, 0, 0)}}, // of one line, at two ticks
		{boxes(y(0), later), 4, 20, []api.Keyhole{hole(0, 0, 0), hole(2, 0, 0)}},
		{boxes(once), 9, 20, nil},
		{boxes(rests), 2, 0, []api.Keyhole{hole(0, -num, num)}},
		{boxes(rests), 1, 0, nil},
		{boxes(rests, y(0), later, y(5)), 4, 20, []api.Keyhole{hole(0, -num, num), hole(2, 0, 0)}},
		{boxes(y(0), rests), 4, 20, []api.Keyhole{hole(0, -num, num)}},
		{boxes(lost), 1, 20, []api.Keyhole{hole(0, -num, num)}},
		{boxes(lost, y(0)), 9, 20, []api.Keyhole{hole(0, -num, num)}},
		{boxes(alone(state(place-3, 0, 1, 0))), 9, 20, []api.Keyhole{hole(3, -num, num)}},
		{boxes(alone(state(place-3, 0, 1, 0))), 3, 20, nil},
		{boxes(alone(state(place-3, 7, 1, 0))), 9, far, []api.Keyhole{hole(0, -7, -7)}}, // its encounter is the first passage, and it is lost later
		{boxes(flat(0, 50, 50, 90, 0)), 9, 20, nil},
		{nil, 9, 20, nil},
	} {
		if got, e := meet.Keyholes(w, none(), 0, c.l, c.ticks, c.near); !slices.Equal(got, c.want) || e != api.OK {
			t.Error(i, got, e)
		}
	}
	if got, e := meet.Keyholes(w, none(), 6, boxes(later, y(0)), 4, 20); !slices.Equal(got, []api.Keyhole{hole(6, 0, 0), hole(8, 0, 0)}) || e != api.OK {
		t.Error(got, e)
	}
}

// TestP5_5Random holds returns and keyholes against the chapter's words.
func TestP5_5Random(t *testing.T) {
	d := draw(555)
	count := map[int]int{}
	whole, many := 0, 0
	for range 10000 {
		s, near := d.scene(12), d.below(100)
		for _, b := range s.l {
			if got, e := meet.Returns(s.w, s.d, s.tick, b, s.ticks, near); !slices.Equal(got, returnsOf(s, b, near)) || e != api.OK {
				t.Fatal(s, b, near, got, e)
			}
		}
		want := keyholesOf(s, near)
		got, e := meet.Keyholes(s.w, s.d, s.tick, s.l, s.ticks, near)
		if !slices.Equal(got, want) || e != api.OK {
			t.Fatal(s, near, got, want, e)
		}
		count[min(len(got), 3)]++
		for i, k := range got {
			if k.Line == of(-num, num) {
				whole++
			}
			if i > 0 && got[i-1].Tick == k.Tick {
				many++
			}
		}
	}
	if count[0] < 1000 || count[1] < 1000 || count[2] < 500 || count[3] < 100 || whole < 500 || many < 100 {
		t.Error("too few cases", count, whole, many)
	}
}

func TestP5_5Enters(t *testing.T) {
	l := []api.Keyhole{hole(5, 3, 8), hole(2, -4, -4), hole(5, -2, 0), hole(7, 9, 1), hole(-3, least, most), hole(most, most, most)}
	for i, c := range []struct {
		tick int64
		s    api.Span
		want bool
	}{
		{5, of(8, 20), true},
		{5, of(9, 20), false},
		{5, of(-9, 3), true},
		{5, of(1, 2), false},
		{5, of(0, 2), true},
		{5, of(4, 5), true},
		{5, of(-100, 100), true},
		{5, of(5, 4), false},
		{2, of(-4, -4), true},
		{2, of(-3, -3), false},
		{2, of(-5, -5), false},
		{2, of(3, 8), false},
		{7, of(1, 9), false}, // that one has no numbers
		{7, of(5, 5), false},
		{7, of(9, 1), false},
		{7, of(least, most), false},
		{-3, of(0, 0), true},
		{-3, of(least, least), true},
		{-3, of(most, most), true},
		{-3, of(most, least), false},
		{most, of(most, most), true},
		{most, of(least, most-1), false},
		{0, of(least, most), false},
		{6, of(3, 8), false},
	} {
		if got := meet.Enters(l, c.tick, c.s); got != c.want {
			t.Error(i, got)
		}
	}
	if meet.Enters(nil, 0, of(least, most)) {
		t.Error("no keyholes")
	}
}
