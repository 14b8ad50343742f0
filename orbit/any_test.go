package orbit_test

import (
	"reflect"
	"slices"
	"testing"

	"bolide/api"
	"bolide/orbit"
)

// numbers are ordinary ones, and those at and beyond each limit.
func numbers() []int64 {
	return []int64{
		0, 0, 1, 2, 3, 5, 7, 10, 12, -1, -3, 20, 21, 64, 100, 400, 401, 512, 513, 1001, speed, speed + 1, -speed, -speed - 1,
		place, place + 1, -place, -place - 1, end, end + 1, 1 << 60, most, most - 1, least, least + 1,
	}
}

// isSet reports whether boxes are a set.
func isSet(l []api.Box) bool {
	return len(l) <= 512 && !slices.ContainsFunc(l, func(b api.Box) bool { return !isBox(b) })
}

// wild are arguments of which each number may be any one.
type wild struct {
	s           api.Sky
	d           api.Drift
	tick        int64
	n           int
	l           []api.Box
	sights      []api.Sight
	state, next api.State
}

func wildOf(pick func() int64) wild {
	s := sunny()
	s.World.Bodies[0].Mu, s.World.Bodies[1].Track[1] = pick(), at(pick(), pick())
	s.Stations[1].Off, s.Catalogs[1].Bias = at(pick(), pick()), of(-pick(), pick())
	span := func() api.Span {
		n := pick()
		return of(n, n+pick())
	}
	number := func() api.State { return state(pick(), pick(), pick(), pick()) }
	any := func() api.Box { return api.Box{X: span(), Y: span(), U: span(), V: span()} }
	x := api.Sight{Kind: int(pick()), Station: 1, Catalog: 1, Tick: pick(), Dir: at(pick(), 1), Err: pick(), Lo: pick(), Hi: pick()}
	d := api.Drift{Light: of(0, pick()), Heat: of(-pick(), pick()), Gas: pick()}
	return wild{s: s, d: d, tick: pick(), n: int(pick()), l: boxes(any(), any()), sights: []api.Sight{x, distance(0, 0, 1<<27)}, state: number(), next: number()}
}

// TestP1AllArguments calls each function with numbers of any size: none panics, and with an error there is no result.
func TestP1AllArguments(t *testing.T) {
	l := numbers()
	draw := draw(1)
	right := map[string]int{}
	for i := range 60000 {
		small := int64(len(l))
		if i%3 > 0 {
			small = 9 // mostly valid
		}
		a := wildOf(func() int64 { return l[draw.below(small)] })
		results, errors := map[string][]api.Box{}, map[string]api.Errno{}
		keep := func(name string, l []api.Box, e api.Errno) { results[name], errors[name] = l, e }
		step, e := orbit.Step(a.s.World, a.d, a.tick, a.l[0])
		if e != api.OK && step != (api.Box{}) {
			t.Fatal("Step", a, step, e)
		}
		keep("Step", boxes(step), e)
		set, e := orbit.Propagate(a.s.World, a.d, a.tick, a.l, min(a.n, 12))
		keep("Propagate", set, e)
		set, e = orbit.Cells(a.l[0], a.n)
		keep("Cells", set, e)
		set, e = orbit.Filter(a.s, a.tick, a.l, a.sights)
		keep("Filter", set, e)
		set, e = orbit.Refine(a.s, a.tick, a.l, a.sights, min(a.n, 8))
		keep("Refine", set, e)
		set, e = orbit.Update(a.s, a.d, a.tick, a.l, min(a.n, 12), a.sights)
		keep("Update", set, e)
		set, e = orbit.Pack(a.l, a.n)
		keep("Pack", set, e)
		for name, set := range results {
			if errors[name] != api.OK && name != "Step" && len(set) > 0 || !isSet(set) {
				t.Fatal(name, a, set, errors[name])
			}
			if errors[name] == api.OK {
				right[name]++
			}
		}
		checkOthers(t, a)
	}
	for name, n := range right {
		if n < 100 {
			t.Error("too few right calls", name, n)
		}
	}
	if len(right) != 7 {
		t.Error(right)
	}
}

// checkOthers calls the functions that have no errors.
func checkOthers(t *testing.T, a wild) {
	t.Helper()
	if hull, ok := orbit.Hull(a.l); ok != (orbit.CheckSet(a.l) == api.OK) || !ok && hull != (api.Box{}) || ok && !isBox(hull) {
		t.Fatal("Hull", a.l, hull, ok)
	}
	if low, high, ok := orbit.Split(a.l[0]); !ok && (low != (api.Box{}) || high != (api.Box{})) || ok && !isSet(boxes(low, high)) {
		t.Fatal("Split", a.l, low, high, ok)
	}
	if e := orbit.CheckState(a.state); (e == api.OK) != isState(a.state) || e != api.OK && e != api.ErrRange {
		t.Fatal("CheckState", a.state, e)
	}
	if e := orbit.Check(a.l[0]); (e == api.OK) != isBox(a.l[0]) || e != api.OK && e != api.ErrRange {
		t.Fatal("Check", a.l, e)
	}
	if orbit.Holds(a.l[0], a.state) != holds(a.l[0], a.state) || orbit.In(a.l, a.state) != (howMany(a.l, a.state) > 0) {
		t.Fatal("Holds", a.l, a.state)
	}
	if b := a.l[0]; orbit.Within(boxes(b), boxes(b)) != (b.X.Lo <= b.X.Hi && b.Y.Lo <= b.Y.Hi && b.U.Lo <= b.U.Hi && b.V.Lo <= b.V.Hi) {
		t.Fatal("Within", b)
	}
	if orbit.Possible(a.s.World, a.d, a.tick, a.state, a.next) && !(isState(a.state) && isState(a.next)) {
		t.Fatal("Possible", a)
	}
	if n := orbit.Truth(a.s.World, a.d, a.tick, []api.State{a.state, a.next}); n < -1 || n > 1 {
		t.Fatal("Truth", a, n)
	}
}

// TestR4Arguments finds arguments as they were, and results that share no memory with them.
func TestR4Arguments(t *testing.T) {
	s, d := sunny(), drift()
	set, sights := boxes(box(50, 60, 1, 2, 3, 4, 5, 6), alone(state(70, 80, 1, 2))), []api.Sight{distance(0, 0, 500), distance(1, 0, 500)}
	states := []api.State{state(50, 0, 400, 0), state(54, 0, 4, 0)}
	same := func() bool {
		return reflect.DeepEqual(s, sunny()) && d == drift() && slices.Equal(set, boxes(box(50, 60, 1, 2, 3, 4, 5, 6), alone(state(70, 80, 1, 2)))) &&
			slices.Equal(sights, []api.Sight{distance(0, 0, 500), distance(1, 0, 500)}) && slices.Equal(states, []api.State{state(50, 0, 400, 0), state(54, 0, 4, 0)})
	}
	for name, f := range map[string]func() ([]api.Box, api.Errno){
		"Propagate":      func() ([]api.Box, api.Errno) { return orbit.Propagate(s.World, d, 0, set, 2) },
		"no ticks":       func() ([]api.Box, api.Errno) { return orbit.Propagate(s.World, d, 0, set, 0) },
		"Cells":          func() ([]api.Box, api.Errno) { return orbit.Cells(set[0], 5) },
		"Filter":         func() ([]api.Box, api.Errno) { return orbit.Filter(s, 0, set, sights) },
		"without sights": func() ([]api.Box, api.Errno) { return orbit.Filter(s, 0, set, nil) },
		"Refine":         func() ([]api.Box, api.Errno) { return orbit.Refine(s, 0, set, sights, 3) },
		"no rounds":      func() ([]api.Box, api.Errno) { return orbit.Refine(s, 0, set, sights, 0) },
		"Update":         func() ([]api.Box, api.Errno) { return orbit.Update(s, d, 0, set, 1, sights) },
		"no updates":     func() ([]api.Box, api.Errno) { return orbit.Update(s, d, 0, set, 0, nil) },
		"Pack":           func() ([]api.Box, api.Errno) { return orbit.Pack(set, 1) },
		"packed already": func() ([]api.Box, api.Errno) { return orbit.Pack(set, 2) },
	} {
		got, e := f()
		if len(got) == 0 || e != api.OK || !same() {
			t.Error(name, got, e)
		}
		again := slices.Clone(got)
		for i := range got[:cap(got)] {
			got[:cap(got)][i] = api.Box{}
		}
		if !same() {
			t.Error("shared", name)
		}
		if other, _ := f(); !slices.Equal(other, again) {
			t.Error("another result", name)
		}
	}
	orbit.Hull(set)
	orbit.Within(set, set)
	orbit.In(set, states[0])
	orbit.Truth(s.World, d, 0, states)
	orbit.Possible(s.World, d, 0, states[0], states[1])
	orbit.Step(s.World, d, 1, set[0])
	if !same() {
		t.Error("changed")
	}
}

// TestP1Greatest updates the greatest set in the greatest world for the most ticks.
func TestP1Greatest(t *testing.T) {
	var s api.Sky
	for range 8 {
		s.World.Bodies = append(s.World.Bodies, api.Body{Track: make([]api.Vec, 4096)})
	}
	s.Stations = []api.Station{{ID: 1}}
	l := slices.Repeat(boxes(alone(state(1, 0, 0, 0))), 512)
	sights := slices.Repeat([]api.Sight{distance(200, 0, 1<<27)}, 64)
	if got, e := orbit.Update(s, api.Drift{Gas: 9}, 0, l, 400, sights); len(got) != 512 || e != api.OK {
		t.Error(len(got), e)
	}
}

// TestDocExample is the row of orbit in the document's own table of examples.
func TestDocExample(t *testing.T) {
	b, e := orbit.Step(world(), drift(), 0, box(0, 10, 0, 0, 5, 5, 0, 0))
	if b.X != of(4, 16) || b.U != of(4, 6) || e != api.OK {
		t.Error(b, e)
	}
}
