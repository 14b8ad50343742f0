package meet_test

import (
	"reflect"
	"slices"
	"testing"

	"bolide/api"
	"bolide/meet"
	"bolide/orbit"
)

// numbers are ordinary ones, and those at and beyond each limit.
func numbers() []int64 {
	return []int64{
		0, 0, 1, 2, 3, 5, 7, 10, 12, -1, -3, 13, 20, 100, 400, 401, 512, 1001, speed, speed + 1, -speed, -speed - 1,
		place, place + 1, -place, -place - 1, far, far + 1, -far, -far - 1, end, end - 1, end + 1, heavy, heavy + 1, num, num + 1, -num, -num - 1, most, most - 1, least, least + 1,
	}
}

// wild are arguments of which each number may be any one.
type wild struct {
	w               api.World
	d               api.Drift
	tick, near      int64
	ticks, rounds   int
	l               []api.Box
	weights         []int64
	s, next         api.State
	area, otherArea api.Area
	holes           []api.Keyhole
}

func wildOf(pick func() int64) wild {
	w := world()
	w.Bodies[0].Mu, w.Bodies[1].Radius, w.Bodies[1].Track[1] = pick(), pick(), at(pick(), pick())
	if pick() == -3 {
		w.Home = int(pick())
	}
	span := func() api.Span {
		n := pick()
		return of(n, n+pick())
	}
	number := func() api.State { return state(pick(), pick(), pick(), pick()) }
	any := func() api.Box { return api.Box{X: span(), Y: span(), U: span(), V: span()} }
	return wild{
		w: w, d: api.Drift{Light: of(0, pick()), Heat: of(-pick(), pick()), Gas: pick()}, tick: pick(), near: pick(),
		ticks: int(pick()), rounds: fewer(pick()), l: boxes(any(), any()), weights: []int64{pick(), pick()}, s: number(), next: number(),
		area: api.Area{X: span(), Y: span()}, otherArea: api.Area{X: span(), Y: span()}, holes: []api.Keyhole{{Tick: pick(), Line: span()}},
	}
}

// fewer returns a number of rounds, and not many if that is valid: many take long.
func fewer(n int64) int {
	if 2 < n && n <= 12 {
		return 2
	}
	return int(n)
}

// TestP1AllArguments calls each function with numbers of any size: none panics, and with an error there is no result.
func TestP1AllArguments(t *testing.T) {
	l := numbers()
	draw := draw(1)
	right := map[string]int{}
	for i := range 15000 {
		small := int64(len(l))
		if i%3 > 0 {
			small = 9 // mostly valid
		}
		a := wildOf(func() int64 { return l[draw.below(small)] })
		check := func(name string, isZero bool, e api.Errno) {
			if e != api.OK && !isZero {
				t.Fatal(name, a, e)
			}
			if e == api.OK {
				right[name]++
			}
		}
		fate, e := meet.Find(a.w, a.d, a.tick, a.l[0], a.ticks)
		check("Find", fate == (api.Fate{}), e)
		cells, e := meet.Cover(a.w, a.d, a.tick, a.l[0], a.ticks, a.rounds)
		check("Cover", len(cells) == 0, e)
		is, e := meet.Excluded(a.w, a.d, a.tick, a.l, a.ticks, a.rounds)
		check("Excluded", !is, e)
		chance, e := meet.Odds(a.w, a.d, a.tick, a.l, a.weights, a.ticks)
		check("Odds", chance == (api.Chance{}), e)
		returns, e := meet.Returns(a.w, a.d, a.tick, a.l[0], a.ticks, a.near)
		check("Returns", len(returns) == 0, e)
		holes, e := meet.Keyholes(a.w, a.d, a.tick, a.l, a.ticks, a.near)
		check("Keyholes", len(holes) == 0, e)
		checkOthers(t, a)
	}
	for name, n := range right {
		if n < 100 {
			t.Error("too few right calls", name, n)
		}
	}
	if len(right) != 6 {
		t.Error(right)
	}
}

// checkOthers calls the functions that have no errors.
func checkOthers(t *testing.T, a wild) {
	t.Helper()
	if p, ok := meet.Relative(a.w, a.tick, at(a.s.X, a.s.Y)); !ok && p != (api.Vec{}) {
		t.Fatal("Relative", a, p)
	}
	x, y, ok := meet.Areas(a.w, a.tick, a.l[0], a.l[1])
	if !ok && (x != (api.Area{}) || y != (api.Area{}) || !meet.May(a.w, a.tick, a.l[0], a.l[1], a.near) || meet.Sure(a.w, a.tick, a.l[0], a.l[1], a.near)) {
		t.Fatal("Areas", a, x, y)
	}
	if meet.Sure(a.w, a.tick, a.l[0], a.l[1], a.near) && !meet.May(a.w, a.tick, a.l[0], a.l[1], a.near) {
		t.Fatal("Sure, but not May", a)
	}
	if meet.Within(a.w, a.tick, a.s, a.next, a.near) && (a.near < 0 || a.near > far || orbit.CheckState(a.s) != api.OK || orbit.CheckState(a.next) != api.OK) {
		t.Fatal("Within", a)
	}
	if n := meet.Hit(a.w, a.tick, states(a.s, a.next, a.s)); n < -1 || n > 1 {
		t.Fatal("Hit", a, n)
	}
	if aim, ok := meet.Aim(a.area, a.otherArea); !ok && aim != (api.Span{}) || aim.Lo > aim.Hi {
		t.Fatal("Aim", a, aim, ok)
	}
	if meet.Enters(a.holes, a.tick, a.area.X) && (a.holes[0].Tick != a.tick || a.area.X.Lo > a.area.X.Hi) {
		t.Fatal("Enters", a)
	}
}

// TestR4Arguments finds arguments as they were, and results that share no memory with them or with each other.
func TestR4Arguments(t *testing.T) {
	w, d := world(), api.Drift{Gas: 1}
	list := func() []api.Box { return boxes(flat(0, 2, 2, 90, 0), flat(0, 0, 30, 95, 0), flat(0, 0, 0, 90, 0)) }
	l, weights, holes := list(), []int64{1, 2, 3}, []api.Keyhole{hole(3, 1, 2), hole(0, 5, 6)}
	truth := states(state(0, 0, 90, 0), state(90, 0, 90, 0))
	same := func() bool {
		return reflect.DeepEqual(w, world()) && slices.Equal(l, list()) && slices.Equal(weights, []int64{1, 2, 3}) && slices.Equal(holes, []api.Keyhole{hole(3, 1, 2), hole(0, 5, 6)}) &&
			slices.Equal(truth, states(state(0, 0, 90, 0), state(90, 0, 90, 0)))
	}
	for rounds := range 4 {
		first, e := meet.Cover(w, d, 0, l[1], 2, rounds)
		again, _ := meet.Cover(w, d, 0, l[1], 2, rounds)
		clear(first[:cap(first)])
		if third, _ := meet.Cover(w, d, 0, l[1], 2, rounds); e != api.OK || !slices.Equal(again, third) || !same() {
			t.Error("Cover", rounds, again, third)
		}
	}
	first, e := meet.Keyholes(w, d, 0, l, 3, 20)
	again, _ := meet.Keyholes(w, d, 0, l, 3, 20)
	clear(first[:cap(first)])
	if third, _ := meet.Keyholes(w, d, 0, l, 3, 20); e != api.OK || len(first) == 0 || !slices.Equal(again, third) || !same() {
		t.Error("Keyholes", again, third)
	}
	returns, e := meet.Returns(w, d, 0, l[0], 3, 20)
	clear(returns[:cap(returns)])
	if other, _ := meet.Returns(w, d, 0, l[0], 3, 20); e != api.OK || !slices.Equal(other, []int{0, 1}) || !same() {
		t.Error("Returns", other)
	}
	meet.Excluded(w, d, 0, l, 3, 2)
	meet.Odds(w, d, 0, l, weights, 3)
	meet.Enters(holes, 3, of(1, 1))
	meet.Hit(w, 0, truth)
	meet.Areas(w, 0, l[0], l[1])
	if !same() {
		t.Error("changed")
	}
}

// TestP1Greatest asks of the greatest sets in the greatest world for the most ticks and rounds.
func TestP1Greatest(t *testing.T) {
	var w api.World
	for range 8 {
		w.Bodies = append(w.Bodies, api.Body{Radius: 10, Track: make([]api.Vec, 4096)})
	}
	l := slices.Repeat(boxes(flat(100, 20, 30, 1, 0)), 512)
	if got, e := meet.Keyholes(w, api.Drift{}, 0, l, 400, 200); got != nil || e != api.OK {
		t.Error(len(got), e)
	}
	if got, e := meet.Excluded(w, api.Drift{}, 0, l, 400, 12); !got || e != api.OK {
		t.Error(got, e)
	}
	if got, e := meet.Cover(w, api.Drift{}, 0, box(-999, 999, -999, 999, -9, 9, -9, 9), 400, 12); len(got) < 300 || e != api.OK {
		t.Error(len(got), e)
	}
	if got := meet.Hit(w, 0, slices.Repeat(states(state(20, 0, 0, 0)), 10000)); got != -1 {
		t.Error(got)
	}
}
