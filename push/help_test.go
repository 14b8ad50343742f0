package push_test

import (
	"math"
	"slices"

	"bolide/api"
	"bolide/force"
	"bolide/meet"
	"bolide/orbit"
	"bolide/push"
)

const (
	place = int64(api.MaxPlace)
	speed = int64(api.MaxSpeed)
	far   = int64(api.MaxFar)
	end   = int64(api.MaxTick)
	num   = int64(api.MaxNum)
	heavy = int64(api.MaxBody)
	power = int64(api.MaxPower)
	least = int64(math.MinInt64)
	most  = int64(math.MaxInt64)
)

func at(x, y int64) api.Vec { return api.Vec{X: x, Y: y} }

func of(lo, hi int64) api.Span { return api.Span{Lo: lo, Hi: hi} }

func only(n int64) api.Span { return of(n, n) }

func state(x, y, u, v int64) api.State { return api.State{X: x, Y: y, U: u, V: v} }

func area(xlo, xhi, ylo, yhi int64) api.Area { return api.Area{X: of(xlo, xhi), Y: of(ylo, yhi)} }

func box(xlo, xhi, ylo, yhi, ulo, uhi, vlo, vhi int64) api.Box {
	return api.Box{X: of(xlo, xhi), Y: of(ylo, yhi), U: of(ulo, uhi), V: of(vlo, vhi)}
}

// one is the box of one state.
func one(x, y, u, v int64) api.Box { return box(x, x, y, y, u, u, v, v) }

// alone is the box of a state.
func alone(s api.State) api.Box { return one(s.X, s.Y, s.U, s.V) }

// placesOf is the area of the places of a box.
func placesOf(b api.Box) api.Area { return api.Area{X: b.X, Y: b.Y} }

func boxes(l ...api.Box) []api.Box { return l }

func missions(l ...api.Mission) []api.Mission { return l }

func options(l ...api.Campaign) []api.Campaign { return l }

func list(l ...int) []int { return l }

func lists(l ...[]int) [][]int { return l }

// world is the world W of the chapter's examples.
func world() api.World {
	return api.World{Bodies: []api.Body{{Radius: 10, Track: []api.Vec{at(0, 0)}}}}
}

// moving is a world with a sun without mass, and a Home that moves.
func moving() api.World {
	return api.World{Bodies: []api.Body{
		{Track: []api.Vec{at(7, 7)}},
		{Radius: 5, Track: []api.Vec{at(0, 0), at(100, -50), at(-30, 40)}},
	}, Home: 1}
}

// none is the zero drift N of the chapter's examples.
func none() api.Drift { return api.Drift{} }

// impactor is the mission I of the chapter's examples.
func impactor() api.Mission {
	return api.Mission{Kind: api.PushImpact, Arrive: 10, For: 1, Mass: only(100), Mult: of(2000, 3000), Cost: 5}
}

// charge is the mission C of the chapter's examples.
func charge() api.Mission {
	return with(impactor(), func(m *api.Mission) {
		m.Kind, m.Power, m.Dir, m.Mult = api.PushCharge, of(500, 600), at(0, 2), only(1000)
	})
}

// tractor is a mission that works at the ticks 10 to 12.
func tractor() api.Mission {
	return with(charge(), func(m *api.Mission) { m.Kind, m.For = api.PushTractor, 3 })
}

// beam is the tractor as a beam.
func beam() api.Mission {
	return with(tractor(), func(m *api.Mission) { m.Kind = api.PushBeam })
}

// reserve is a mission as a reserve.
func reserve(m api.Mission) api.Mission {
	return with(m, func(m *api.Mission) { m.Reserve = true })
}

// with returns a mission that was changed.
func with(m api.Mission, change func(*api.Mission)) api.Mission {
	change(&m)
	return m
}

// mass is the body mass of the chapter's examples.
func mass() api.Span { return only(1000) }

// campaign is a campaign of missions against this body.
func campaign(l ...api.Mission) api.Campaign {
	return api.Campaign{Missions: l, Body: mass(), Fast: 1000, Miss: 15, Ticks: 20}
}

// but returns a campaign that was changed.
func but(c api.Campaign, change func(*api.Campaign)) api.Campaign {
	change(&c)
	return c
}

// draw hands out numbers that look arbitrary, the same ones in each run.
type draw uint64

func (d *draw) next() int64 {
	*d = *d*6364136223846793005 + 1442695040888963407
	return int64(*d ^ *d>>29)
}

// upTo returns a number from -n to n.
func (d *draw) upTo(n int64) int64 { return d.next() % (n + 1) }

// below returns a number from 0 to n - 1.
func (d *draw) below(n int64) int64 { return int64(uint64(d.next()) % uint64(n)) }

// in returns a number of s.
func (d *draw) in(s api.Span) int64 { return s.Lo + d.below(s.Hi-s.Lo+1) }

// from returns a span of at most wide numbers more than one, of numbers from lo to hi.
func (d *draw) from(lo, hi, wide int64) api.Span {
	n := d.in(of(lo, hi))
	return of(n, min(hi, n+d.below(wide+1)))
}

// part returns a span inside of s.
func (d *draw) part(s api.Span) api.Span {
	a, b := d.in(s), d.in(s)
	return of(min(a, b), max(a, b))
}

// inside returns a box inside of b.
func (d *draw) inside(b api.Box) api.Box {
	return api.Box{X: d.part(b.X), Y: d.part(b.Y), U: d.part(b.U), V: d.part(b.V)}
}

// stateIn returns a state of b.
func (d *draw) stateIn(b api.Box) api.State {
	return state(d.in(b.X), d.in(b.Y), d.in(b.U), d.in(b.V))
}

// scene is a campaign against a set from a tick on, in a world.
type scene struct {
	w    api.World
	d    api.Drift
	tick int64
	set  []api.Box
	c    api.Campaign
}

func (s scene) verify() (api.Verdict, api.Errno) { return push.Verify(s.w, s.d, s.tick, s.set, s.c) }

func (s scene) choose(l []api.Campaign) (int, api.Errno) {
	return push.Choose(s.w, s.d, s.tick, s.set, l)
}

func (s scene) worth(l []api.Campaign, parts [][]int) (int, int, api.Errno) {
	return push.Worth(s.w, s.d, s.tick, s.set, l, parts)
}

func (s scene) windows(launch, fast int64, ticks int) ([]int64, api.Errno) {
	return push.Windows(s.w, s.d, s.tick, s.set, launch, fast, ticks)
}

// scene returns one with up to n cells and up to m missions, made so that all verdicts are frequent.
func (d *draw) scene(n, m int64) scene {
	s := scene{w: d.world(), tick: d.below(9)}
	if d.below(2) == 0 {
		s.d = api.Drift{Light: of(0, d.below(100)), Heat: of(-d.below(20), d.below(20)), Gas: d.below(2)}
	}
	s.c = api.Campaign{Body: d.from(50, 2000, 50), Fast: 1 << d.below(20), Fails: int(d.below(4)), Miss: d.below(30), Ticks: int(1 + d.below(6))}
	for range d.below(n + 1) {
		s.set = append(s.set, d.cell(s))
	}
	for range d.below(m + 1) {
		s.c.Missions = append(s.c.Missions, d.mission(s.tick, int64(s.c.Ticks)))
	}
	for range d.below(3) {
		s.c.Keys = append(s.c.Keys, api.Keyhole{Tick: s.tick + d.below(8), Line: d.from(-100, 100, 50)})
	}
	if d.below(20) == 0 {
		s.c.Body, s.set = only(1), append(s.set, one(place-d.below(100), 0, d.upTo(50), speed-d.below(3)))
	}
	return s
}

// world returns a world with up to three bodies.
func (d *draw) world() api.World {
	var w api.World
	for range 1 + d.below(3) {
		b := api.Body{Mu: d.below(1 << d.below(12)), Radius: d.below(20)}
		for range 1 + d.below(4) {
			b.Track = append(b.Track, at(d.upTo(100), d.upTo(100)))
		}
		w.Bodies = append(w.Bodies, b)
	}
	w.Home = int(d.below(int64(len(w.Bodies))))
	return w
}

// cell returns a box that goes straight towards a place near Home in some passage of a scene.
func (d *draw) cell(s scene) api.Box {
	n := 1 + d.below(int64(s.c.Ticks))
	p, u, v := homeOf(s.w, s.tick+n), d.upTo(100), d.upTo(100)
	p = at(p.X+d.upTo(90)-u*n, p.Y+d.upTo(90)-v*n)
	about := func(n, wide int64) api.Span { return of(n-d.below(wide), n+d.below(wide)) }
	wide := []int64{1, 3, 8}[d.below(3)]
	return api.Box{X: about(p.X, wide), Y: about(p.Y, wide), U: about(u, 2), V: about(v, 2)}
}

// mission returns a valid mission that arrives about the ticks from tick on.
func (d *draw) mission(tick, ticks int64) api.Mission {
	m := api.Mission{
		Kind: int(1 + d.below(4)), Arrive: tick + d.below(ticks), For: int(1 + d.below(4)),
		Mass: d.from(1, 30, 5), Power: d.from(0, 2000, 100), Mult: d.from(1000, 5000, 500),
		Dir: at(d.upTo(30), d.upTo(30)), Reserve: d.below(3) == 0, Cost: int(d.below(10)),
	}
	if d.below(6) == 0 {
		m.Arrive = tick + d.upTo(9)
	}
	m.Arrive = max(1, m.Arrive)
	m.Launch = d.below(m.Arrive)
	return m
}

// homeOf is Home's place at a tick.
func homeOf(w api.World, tick int64) api.Vec {
	track := w.Bodies[w.Home].Track
	return track[tick%int64(len(track))]
}

// floor is a / b, rounded down, for a b above 0.
func floor(a, b int64) int64 {
	n := a / b
	if n*b > a {
		n--
	}
	return n
}

// less is the span of all differences.
func less(a, b api.Span) api.Span { return of(a.Lo-b.Hi, a.Hi-b.Lo) }

// times is the span of all products.
func times(a, b api.Span) api.Span {
	l := []int64{a.Lo * b.Lo, a.Lo * b.Hi, a.Hi * b.Lo, a.Hi * b.Hi}
	return of(slices.Min(l), slices.Max(l))
}

// over is the span of all quotients by numbers above 0, rounded outwards.
func over(a, b api.Span) api.Span {
	return of(min(floor(a.Lo, b.Lo), floor(a.Lo, b.Hi)), max(-floor(-a.Hi, b.Lo), -floor(-a.Hi, b.Hi)))
}

// negative is the span with the other sign.
func negative(a api.Span) api.Span { return of(-a.Hi, -a.Lo) }

// isIn reports whether a lies inside b.
func isIn(a, b api.Span) bool { return b.Lo <= a.Lo && a.Hi <= b.Hi }

// isPart reports whether an area lies inside another one.
func isPart(a, b api.Area) bool { return isIn(a.X, b.X) && isIn(a.Y, b.Y) }

// speedsOf are the speeds of a flight to an area, as the chapter writes them.
func speedsOf(w api.World, m api.Mission, a api.Area) api.Area {
	h, n := homeOf(w, m.Launch), only(m.Arrive-m.Launch)
	return api.Area{X: over(less(a.X, only(h.X)), n), Y: over(less(a.Y, only(h.Y)), n)}
}

// doesOf is what a mission does, as the chapter writes it.
func doesOf(w api.World, m api.Mission, body api.Span, tick int64, b api.Box) api.Area {
	last := m.Arrive
	if m.Kind >= api.PushTractor {
		last += int64(m.For) - 1
	}
	if tick < m.Arrive || tick > last {
		return api.Area{}
	}
	if m.Kind == api.PushImpact {
		s, n := speedsOf(w, m, placesOf(b)), times(m.Mult, m.Mass)
		return api.Area{X: over(times(n, less(s.X, b.U)), times(only(1000), body)), Y: over(times(n, less(s.Y, b.V)), times(only(1000), body))}
	}
	a := api.Area{X: over(times(m.Power, only(m.Dir.X)), body), Y: over(times(m.Power, only(m.Dir.Y)), body)}
	if m.Kind == api.PushBeam {
		a = api.Area{X: negative(a.X), Y: negative(a.Y)}
	}
	return a
}

// sumOf is what missions do, in sum.
func sumOf(w api.World, l []api.Mission, body api.Span, tick int64, b api.Box) api.Area {
	var sum api.Area
	for _, m := range l {
		a := doesOf(w, m, body, tick, b)
		sum = area(sum.X.Lo+a.X.Lo, sum.X.Hi+a.X.Hi, sum.Y.Lo+a.Y.Lo, sum.Y.Hi+a.Y.Hi)
	}
	return sum
}

// pushedOf is a box that was pushed, beyond the limits or not.
func pushedOf(w api.World, l []api.Mission, body api.Span, tick int64, b api.Box) api.Box {
	a := sumOf(w, l, body, tick, b)
	return api.Box{X: b.X, Y: b.Y, U: of(b.U.Lo+a.X.Lo, b.U.Hi+a.X.Hi), V: of(b.V.Lo+a.Y.Lo, b.V.Hi+a.Y.Hi)}
}

// fliesWith is whether a mission flies with a failure set, as the chapter writes it.
func fliesWith(c api.Campaign, failed []int, n int) bool {
	return !c.Missions[n].Reserve || slices.ContainsFunc(failed, func(i int) bool { return i < n })
}

// failuresOf are the failure sets that count, as the chapter writes them: of all sets, those that do, put in order.
func failuresOf(c api.Campaign) [][]int {
	var l [][]int
	for bits := range 1 << len(c.Missions) {
		var failed []int
		for i := range c.Missions {
			if bits>>i&1 == 1 {
				failed = append(failed, i)
			}
		}
		counts := !slices.ContainsFunc(failed, func(n int) bool { return !fliesWith(c, failed, n) })
		if counts && len(failed) <= c.Fails {
			l = append(l, failed)
		}
	}
	slices.SortFunc(l, func(a, b []int) int {
		if len(a) != len(b) {
			return len(a) - len(b)
		}
		return slices.Compare(a, b)
	})
	return l
}

// workingOf are the missions that work with a failure set, as the chapter writes it.
func workingOf(c api.Campaign, failed []int) []int {
	var l []int
	for n := range c.Missions {
		if fliesWith(c, failed, n) && !slices.Contains(failed, n) {
			l = append(l, n)
		}
	}
	return l
}

// flown are the missions that work with a failure set.
func flown(c api.Campaign, failed []int) []api.Mission {
	var l []api.Mission
	for _, n := range workingOf(c, failed) {
		l = append(l, c.Missions[n])
	}
	return l
}

// crosses is whether a passage goes through a keyhole, as the chapter writes it.
func crosses(w api.World, tick int64, from, to api.Box, keys []api.Keyhole) bool {
	a, b, _ := meet.Areas(w, tick, from, to)
	if aim, ok := meet.Aim(a, b); ok {
		return meet.Enters(keys, tick, aim)
	}
	return meet.Enters(keys, tick, of(-num, num))
}

// whyOf is why a campaign is not safe for a cell at a tick, 0 if it is, and the cell at the next tick, as the chapter writes it.
func (s scene) whyOf(l []api.Mission, tick int64, b api.Box) (int, api.Box) {
	for _, m := range l {
		speeds, limits := speedsOf(s.w, m, placesOf(b)), of(-s.c.Fast, s.c.Fast)
		if m.Arrive == tick && !isPart(speeds, api.Area{X: limits, Y: limits}) {
			return api.WhyFar, b
		}
	}
	from := pushedOf(s.w, l, s.c.Body, tick, b)
	if orbit.Check(from) != api.OK {
		return api.WhyOver, b
	}
	to, e := orbit.Step(s.w, s.d, tick, from)
	switch {
	case e != api.OK:
		return api.WhyOver, b
	case meet.May(s.w, tick, from, to, s.c.Miss):
		return api.WhyHit, b
	case crosses(s.w, tick, from, to, s.c.Keys):
		return api.WhyKey, b
	}
	return 0, to
}

// verdictOf is the verdict, as the chapter writes it.
func (s scene) verdictOf() api.Verdict {
	for _, failed := range failuresOf(s.c) {
		for n, b := range s.set {
			for i := range int64(s.c.Ticks) {
				why, next := s.whyOf(flown(s.c, failed), s.tick+i, b)
				if why != 0 {
					return api.Verdict{Why: why, Failed: failed, Cell: n, Tick: s.tick + i}
				}
				b = next
			}
		}
	}
	return api.Verdict{Safe: true}
}

// same is whether two verdicts are equal.
func same(a, b api.Verdict) bool {
	return a.Safe == b.Safe && a.Why == b.Why && slices.Equal(a.Failed, b.Failed) && a.Cell == b.Cell && a.Tick == b.Tick
}

// equal is whether two lists of lists are equal.
func equal(a, b [][]int) bool { return slices.EqualFunc(a, b, slices.Equal[[]int]) }

// some are the cells of a set with these numbers.
func some(set []api.Box, part []int) []api.Box {
	var l []api.Box
	for _, n := range part {
		l = append(l, set[n])
	}
	return l
}

// pushedTruth returns a pushed truth that begins in a box, by these missions, with as many states as are valid, up to ticks and one; and the states to which they were pushed.
func (d *draw) pushedTruth(s scene, l []api.Mission, b api.Box) (states, after []api.State) {
	states = []api.State{d.stateIn(b)}
	for i := range int64(s.c.Ticks) {
		last := states[i]
		a := sumOf(s.w, l, s.c.Body, s.tick+i, alone(last))
		last.U, last.V = last.U+d.in(a.X), last.V+d.in(a.Y)
		pull, e := force.Pull(s.w, s.d, s.tick+i, at(last.X, last.Y))
		if orbit.CheckState(last) != api.OK || e != api.OK {
			break
		}
		u, v := last.U+d.in(pull.X), last.V+d.in(pull.Y)
		next := state(last.X+u, last.Y+v, u, v)
		if orbit.CheckState(next) != api.OK {
			break
		}
		states, after = append(states, next), append(after, last)
	}
	return states, after
}
