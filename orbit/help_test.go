package orbit_test

import (
	"math"
	"slices"

	"bolide/api"
	"bolide/force"
	"bolide/orbit"
	"bolide/sky"
)

const (
	place = int64(api.MaxPlace)
	speed = int64(api.MaxSpeed)
	pull  = int64(api.MaxPull)
	end   = int64(api.MaxTick)
	least = int64(math.MinInt64)
	most  = int64(math.MaxInt64)
)

func at(x, y int64) api.Vec { return api.Vec{X: x, Y: y} }

func of(lo, hi int64) api.Span { return api.Span{Lo: lo, Hi: hi} }

func state(x, y, u, v int64) api.State { return api.State{X: x, Y: y, U: u, V: v} }

func box(xlo, xhi, ylo, yhi, ulo, uhi, vlo, vhi int64) api.Box {
	return api.Box{X: of(xlo, xhi), Y: of(ylo, yhi), U: of(ulo, uhi), V: of(vlo, vhi)}
}

// alone is the box of one state.
func alone(s api.State) api.Box { return box(s.X, s.X, s.Y, s.Y, s.U, s.U, s.V, s.V) }

// boxes is a set.
func boxes(l ...api.Box) []api.Box { return l }

// many is a set of n boxes: the states (0, 0, 0, 0), (1, 0, 0, 0) and so on.
func many(n int) []api.Box {
	var l []api.Box
	for i := range int64(n) {
		l = append(l, alone(state(i, 0, 0, 0)))
	}
	return l
}

// world is the world W of the chapter's examples.
func world() api.World { return api.World{Bodies: []api.Body{{Track: []api.Vec{at(0, 0)}}}} }

// drift is the drift D of the chapter's examples.
func drift() api.Drift { return api.Drift{Gas: 1} }

// heaven is the sky S of the chapter's examples.
func heaven() api.Sky {
	return api.Sky{World: world(), Stations: []api.Station{{ID: 1}}, Catalogs: []api.Catalog{{Version: 1}}}
}

// example is the box B of the chapter's examples.
func example() api.Box { return box(0, 10, 0, 3, 5, 5, -2, 0) }

// sunny is a sky with a sun, a Home that moves, two stations and two catalogs.
func sunny() api.Sky {
	return api.Sky{
		World: api.World{Bodies: []api.Body{
			{Mu: 1000000, Radius: 10, Track: []api.Vec{at(0, 0)}},
			{Mu: 10000, Radius: 2, Track: []api.Vec{at(100, 0), at(0, 100), at(-100, 0)}},
		}, Home: 1},
		Stations: []api.Station{{ID: 1}, {ID: 4, Off: at(3, -2)}},
		Catalogs: []api.Catalog{{Version: 1}, {Version: 3, Bias: of(-100000, 50000)}},
	}
}

// distance is a range from the station 1.
func distance(tick, lo, hi int64) api.Sight {
	return api.Sight{Kind: api.SightRange, Station: 1, Tick: tick, Lo: lo, Hi: hi}
}

// draw hands out numbers that look arbitrary, the same ones in each run.
type draw uint64

func (d *draw) next() int64 {
	*d = *d*6364136223846793005 + 1442695040888963407
	return int64(*d ^ *d>>29)
}

// upTo returns a number from -n to n.
func (d *draw) upTo(n int64) int64 { return d.next() % (n + 1) }

// below returns a number from 0 to n - 1.
func (d *draw) below(n int64) int64 { return int64(uint64(d.next()) % uint64(n)) }

// span returns a span of numbers from lo to hi; every third one has one number alone.
func (d *draw) span(lo, hi int64) api.Span {
	a, b := d.in(of(lo, hi)), d.in(of(lo, hi))
	if d.below(3) == 0 {
		b = a
	}
	return of(min(a, b), max(a, b))
}

// in returns a number of s.
func (d *draw) in(s api.Span) int64 { return s.Lo + d.below(s.Hi-s.Lo+1) }

// box returns a box with places up to far, and speeds up to fast.
func (d *draw) box(far, fast int64) api.Box {
	return api.Box{X: d.span(-far, far), Y: d.span(-far, far), U: d.span(-fast, fast), V: d.span(-fast, fast)}
}

// boxes returns one to n boxes.
func (d *draw) boxes(n, far, fast int64) []api.Box {
	var l []api.Box
	for range 1 + d.below(n) {
		l = append(l, d.box(far, fast))
	}
	return l
}

// part returns a box inside of b.
func (d *draw) part(b api.Box) api.Box {
	return api.Box{X: d.span(b.X.Lo, b.X.Hi), Y: d.span(b.Y.Lo, b.Y.Hi), U: d.span(b.U.Lo, b.U.Hi), V: d.span(b.V.Lo, b.V.Hi)}
}

// state returns a state of b.
func (d *draw) state(b api.Box) api.State {
	return state(d.in(b.X), d.in(b.Y), d.in(b.U), d.in(b.V))
}

// drift returns a valid drift.
func (d *draw) drift() api.Drift {
	return api.Drift{Light: d.span(0, 200), Heat: d.span(-50, 50), Gas: d.below(4)}
}

// world returns a world of up to three bodies with places up to n, and masses below 2 to the power bits.
func (d *draw) world(bits, n int64) api.World {
	var w api.World
	for range 1 + d.below(3) {
		b := api.Body{Mu: d.below(1 << d.below(bits+1)), Radius: d.below(n/4 + 1)}
		for range 1 + d.below(3) {
			b.Track = append(b.Track, at(d.upTo(n), d.upTo(n)))
		}
		w.Bodies = append(w.Bodies, b)
	}
	w.Home = int(d.below(int64(len(w.Bodies))))
	return w
}

// sky returns a sky of such a world.
func (d *draw) sky(bits, n int64) api.Sky {
	s := sunny()
	s.World = d.world(bits, n)
	return s
}

// sight returns a valid sight in a sky of sunny's stations and catalogs, for distances up to about n.
func (d *draw) sight(tick, n int64) api.Sight {
	x := api.Sight{Kind: int(1 + d.below(3)), Station: []int{1, 4}[d.below(2)], Catalog: []int{1, 3}[d.below(2)], Tick: tick, Err: d.below(api.MaxErr + 1)}
	for x.Dir == (api.Vec{}) {
		x.Dir = at(d.upTo(40), d.upTo(40))
	}
	x.Lo = d.below(n + 1)
	x.Hi = max(1, x.Lo+d.below(n+1))
	return x
}

// sights returns up to n sights at ticks near tick.
func (d *draw) sights(n, tick, far int64) []api.Sight {
	var l []api.Sight
	for range d.below(n + 1) {
		l = append(l, d.sight(max(0, tick+d.below(7)-1), far))
	}
	return l
}

// seen returns up to n sights at a tick with which a place agrees.
func (d *draw) seen(s api.Sky, tick int64, p api.Vec, n, far int64) []api.Sight {
	var l []api.Sight
	for range n {
		if x := d.sight(tick, far); sky.Agrees(s, x, p) {
			l = append(l, x)
		}
	}
	return l
}

// successor returns a possible successor of a state, and true; false if that is not valid.
func (d *draw) successor(w api.World, drift api.Drift, tick int64, s api.State) (api.State, bool) {
	a, e := force.Pull(w, drift, tick, at(s.X, s.Y))
	u, v := s.U+d.in(a.X), s.V+d.in(a.Y)
	next := state(s.X+u, s.Y+v, u, v)
	return next, e == api.OK && isState(next)
}

// isWithin reports whether n is from -far to far.
func isWithin(n, far int64) bool { return -far <= n && n <= far }

// isState reports whether a state is valid, as the chapter writes it.
func isState(s api.State) bool {
	return isWithin(s.X, place) && isWithin(s.Y, place) && isWithin(s.U, speed) && isWithin(s.V, speed)
}

// isBox reports whether a box is valid, as the chapter writes it.
func isBox(b api.Box) bool {
	return b.X.Lo <= b.X.Hi && b.Y.Lo <= b.Y.Hi && b.U.Lo <= b.U.Hi && b.V.Lo <= b.V.Hi &&
		isState(state(b.X.Lo, b.Y.Lo, b.U.Lo, b.V.Lo)) && isState(state(b.X.Hi, b.Y.Hi, b.U.Hi, b.V.Hi))
}

// holds is Holds, as the document writes it.
func holds(b api.Box, s api.State) bool {
	return b.X.Lo <= s.X && s.X <= b.X.Hi && b.Y.Lo <= s.Y && s.Y <= b.Y.Hi && b.U.Lo <= s.U && s.U <= b.U.Hi && b.V.Lo <= s.V && s.V <= b.V.Hi
}

// stepOf is the step of a box, as the chapter writes it, and whether it is within the limits.
func stepOf(w api.World, d api.Drift, tick int64, b api.Box) (api.Box, bool) {
	a, e := force.Over(w, d, tick, api.Area{X: b.X, Y: b.Y})
	u, v := of(b.U.Lo+a.X.Lo, b.U.Hi+a.X.Hi), of(b.V.Lo+a.Y.Lo, b.V.Hi+a.Y.Hi)
	next := box(b.X.Lo+u.Lo, b.X.Hi+u.Hi, b.Y.Lo+v.Lo, b.Y.Hi+v.Hi, u.Lo, u.Hi, v.Lo, v.Hi)
	return next, e == api.OK && isBox(next)
}

// filterOf is a set, filtered, as the chapter writes it.
func filterOf(s api.Sky, tick int64, l []api.Box, sights []api.Sight) []api.Box {
	var left []api.Box
	for _, b := range l {
		if !slices.ContainsFunc(sights, func(x api.Sight) bool {
			return x.Tick == tick && sky.Excludes(s, x, api.Area{X: b.X, Y: b.Y})
		}) {
			left = append(left, b)
		}
	}
	return left
}

// updateOf is a set, updated, as the chapter writes it.
func updateOf(s api.Sky, d api.Drift, tick int64, l []api.Box, ticks int, sights []api.Sight) ([]api.Box, api.Errno) {
	set := filterOf(s, tick, l, sights)
	for t := tick; t < tick+int64(ticks); t++ {
		var next []api.Box
		for _, b := range set {
			c, ok := stepOf(s.World, d, t, b)
			if !ok {
				return nil, api.ErrOver
			}
			next = append(next, c)
		}
		set = filterOf(s, t+1, next, sights)
	}
	return set, api.OK
}

// width is the greatest Hi - Lo of a box.
func width(b api.Box) int64 {
	return max(b.X.Hi-b.X.Lo, b.Y.Hi-b.Y.Lo, b.U.Hi-b.U.Lo, b.V.Hi-b.V.Lo)
}

// middle is half the sum of both ends, rounded down.
func middle(s api.Span) int64 {
	n := s.Lo + s.Hi
	if n%2 != 0 && n < 0 {
		n--
	}
	return n / 2
}

// partsOf are both parts of a box, as the chapter writes it; the box itself if it cannot be split.
func partsOf(b api.Box) []api.Box {
	low, high := b, b
	cut := func(a, b *api.Span) { a.Hi, b.Lo = middle(*a), middle(*a)+1 }
	switch w := width(b); {
	case w == 0:
		return boxes(b)
	case b.X.Hi-b.X.Lo == w:
		cut(&low.X, &high.X)
	case b.Y.Hi-b.Y.Lo == w:
		cut(&low.Y, &high.Y)
	case b.U.Hi-b.U.Lo == w:
		cut(&low.U, &high.U)
	default:
		cut(&low.V, &high.V)
	}
	return boxes(low, high)
}

// cellsOf are n cells of a box, as the chapter writes it.
func cellsOf(b api.Box, n int) []api.Box {
	l := boxes(b)
	for len(l) < n {
		w := int64(0)
		for _, c := range l {
			w = max(w, width(c))
		}
		if w == 0 {
			break
		}
		var next []api.Box
		done := false
		for _, c := range l {
			if !done && width(c) == w {
				next, done = append(next, partsOf(c)...), true
			} else {
				next = append(next, c)
			}
		}
		l = next
	}
	return l
}

// hullOf is the least box that contains all of a list of at least one.
func hullOf(l ...api.Box) api.Box {
	h := l[0]
	for _, b := range l {
		h = box(min(h.X.Lo, b.X.Lo), max(h.X.Hi, b.X.Hi), min(h.Y.Lo, b.Y.Lo), max(h.Y.Hi, b.Y.Hi),
			min(h.U.Lo, b.U.Lo), max(h.U.Hi, b.U.Hi), min(h.V.Lo, b.V.Lo), max(h.V.Hi, b.V.Hi))
	}
	return h
}

// howMany is how many boxes of a list hold a state.
func howMany(l []api.Box, s api.State) int {
	n := 0
	for _, b := range l {
		if orbit.Holds(b, s) {
			n++
		}
	}
	return n
}

// statesOf are all states of a small box.
func statesOf(b api.Box) []api.State {
	var l []api.State
	for x := b.X.Lo; x <= b.X.Hi; x++ {
		for y := b.Y.Lo; y <= b.Y.Hi; y++ {
			for u := b.U.Lo; u <= b.U.Hi; u++ {
				for v := b.V.Lo; v <= b.V.Hi; v++ {
					l = append(l, state(x, y, u, v))
				}
			}
		}
	}
	return l
}
