package meet_test

import (
	"cmp"
	"math"
	"slices"

	"bolide/api"
	"bolide/force"
	"bolide/orbit"
	"bolide/span"
)

const (
	place = int64(api.MaxPlace)
	speed = int64(api.MaxSpeed)
	far   = int64(api.MaxFar)
	end   = int64(api.MaxTick)
	num   = int64(api.MaxNum)
	heavy = int64(api.MaxWeight)
	least = int64(math.MinInt64)
	most  = int64(math.MaxInt64)
)

func at(x, y int64) api.Vec { return api.Vec{X: x, Y: y} }

func of(lo, hi int64) api.Span { return api.Span{Lo: lo, Hi: hi} }

func state(x, y, u, v int64) api.State { return api.State{X: x, Y: y, U: u, V: v} }

func box(xlo, xhi, ylo, yhi, ulo, uhi, vlo, vhi int64) api.Box {
	return api.Box{X: of(xlo, xhi), Y: of(ylo, yhi), U: of(ulo, uhi), V: of(vlo, vhi)}
}

// alone is the box of one state.
func alone(s api.State) api.Box { return box(s.X, s.X, s.Y, s.Y, s.U, s.U, s.V, s.V) }

// flat is a box of one place along X and of one speed, with some Y.
func flat(x, ylo, yhi, u, v int64) api.Box { return box(x, x, ylo, yhi, u, u, v, v) }

// boxes is a set.
func boxes(l ...api.Box) []api.Box { return l }

func states(l ...api.State) []api.State { return l }

func area(xlo, xhi, ylo, yhi int64) api.Area { return api.Area{X: of(xlo, xhi), Y: of(ylo, yhi)} }

// spot is the area of one place.
func spot(x, y int64) api.Area { return area(x, x, y, y) }

func miss() api.Fate { return api.Fate{Kind: api.FateMiss, Passage: -1} }

func hit(passage int) api.Fate { return api.Fate{Kind: api.FateHit, Passage: passage} }

func open(passage int) api.Fate { return api.Fate{Kind: api.FateOpen, Passage: passage} }

func hole(tick, lo, hi int64) api.Keyhole { return api.Keyhole{Tick: tick, Line: of(lo, hi)} }

// world is the world W of the chapter's examples.
func world() api.World {
	return api.World{Bodies: []api.Body{
		{Track: []api.Vec{at(0, 0)}},
		{Radius: 10, Track: []api.Vec{at(100, 0), at(100, 0), at(120, 0)}},
	}, Home: 1}
}

// resting is a world with one body, Home, at the origin.
func resting(radius int64) api.World {
	return api.World{Bodies: []api.Body{{Radius: radius, Track: []api.Vec{at(0, 0)}}}}
}

// none is the zero drift N of the chapter's examples.
func none() api.Drift { return api.Drift{} }

// draw hands out numbers that look arbitrary, the same ones in each run.
type draw uint64

func (d *draw) next() int64 {
	*d = *d*6364136223846793005 + 1442695040888963407
	return int64(*d ^ *d>>29)
}

// upTo returns a number from -n to n.
func (d *draw) upTo(n int64) int64 { return d.next() % (n + 1) }

// below returns a number from 0 to n - 1.
func (d *draw) below(n int64) int64 { return int64(uint64(d.next()) % uint64(n)) }

// in returns a number of s.
func (d *draw) in(s api.Span) int64 { return s.Lo + d.below(s.Hi-s.Lo+1) }

// span returns a span of at most wide numbers more than one, of numbers from -n to n.
func (d *draw) span(n, wide int64) api.Span {
	lo := d.upTo(n)
	return of(lo, min(n, lo+d.below(wide+1)))
}

// part returns a span inside of s.
func (d *draw) part(s api.Span) api.Span {
	a, b := d.in(s), d.in(s)
	return of(min(a, b), max(a, b))
}

// inside returns a box inside of b.
func (d *draw) inside(b api.Box) api.Box {
	return api.Box{X: d.part(b.X), Y: d.part(b.Y), U: d.part(b.U), V: d.part(b.V)}
}

// area returns an area with numbers from -n to n.
func (d *draw) area(n, wide int64) api.Area { return api.Area{X: d.span(n, wide), Y: d.span(n, wide)} }

// spotIn returns the area of one place of a.
func (d *draw) spotIn(a api.Area) api.Area { return spot(d.in(a.X), d.in(a.Y)) }

// stateIn returns a state of b.
func (d *draw) stateIn(b api.Box) api.State {
	return state(d.in(b.X), d.in(b.Y), d.in(b.U), d.in(b.V))
}

// scene is a question with a set, made so that misses, hits and open fates are all frequent.
type scene struct {
	w     api.World
	d     api.Drift
	tick  int64
	ticks int
	l     []api.Box
}

// scene returns one with up to n boxes.
func (d *draw) scene(n int64) scene {
	s := scene{tick: d.below(9), ticks: int(1 + d.below(6))}
	for range 1 + d.below(3) {
		b := api.Body{Mu: d.below(1 << d.below(14)), Radius: d.below(40)}
		for range 1 + d.below(3) {
			b.Track = append(b.Track, at(d.upTo(100), d.upTo(100)))
		}
		s.w.Bodies = append(s.w.Bodies, b)
	}
	s.w.Home = int(d.below(int64(len(s.w.Bodies))))
	if d.below(2) == 0 {
		s.d = api.Drift{Light: of(0, d.below(100)), Heat: of(-d.below(20), d.below(20)), Gas: d.below(2)}
	}
	for range d.below(n + 1) {
		s.l = append(s.l, d.box(s))
	}
	return s
}

// box returns a box whose middle goes straight towards a place near Home in some passage of a scene.
func (d *draw) box(s scene) api.Box {
	n := 1 + d.below(int64(s.ticks))
	p, u, v := homeOf(s.w, s.tick+n), d.upTo(100), d.upTo(100)
	p = at(p.X+d.upTo(30)-u*n, p.Y+d.upTo(30)-v*n)
	about := func(n, wide int64) api.Span { return of(n-d.below(wide), n+d.below(wide)) }
	wide := []int64{1, 8, 30}[d.below(3)]
	return api.Box{X: about(p.X, wide), Y: about(p.Y, wide), U: about(u, 2), V: about(v, 2)}
}

// truth returns a truth that begins in a box, with as many states as are valid, up to ticks and one.
func (d *draw) truth(s scene, b api.Box) []api.State {
	l := states(d.stateIn(b))
	for i := range s.ticks {
		last := l[i]
		a, _ := force.Pull(s.w, s.d, s.tick+int64(i), at(last.X, last.Y))
		u, v := last.U+d.in(a.X), last.V+d.in(a.Y)
		next := state(last.X+u, last.Y+v, u, v)
		if orbit.CheckState(next) != api.OK {
			break
		}
		l = append(l, next)
	}
	return l
}

// homeOf is Home's place at a tick.
func homeOf(w api.World, tick int64) api.Vec {
	track := w.Bodies[w.Home].Track
	return track[tick%int64(len(track))]
}

// areaOf are the places of a box less Home's place.
func areaOf(w api.World, tick int64, b api.Box) api.Area {
	home := homeOf(w, tick)
	return area(b.X.Lo-home.X, b.X.Hi-home.X, b.Y.Lo-home.Y, b.Y.Hi-home.Y)
}

// pass is a passage of a box.
type pass struct {
	lost bool
	a, b api.Area
}

func (p pass) clear(r int64) bool { return !p.lost && span.Clear(p.a, p.b, r) }

func (p pass) surely(r int64) bool { return !p.lost && span.Hits(p.a, p.b, r) }

// passagesOf are the passages of a box, as the chapter writes them.
func passagesOf(s scene, b api.Box) []pass {
	var l []pass
	for i := range int64(s.ticks) {
		next, e := orbit.Step(s.w, s.d, s.tick+i, b)
		if e != api.OK {
			return append(l, pass{lost: true})
		}
		l = append(l, pass{a: areaOf(s.w, s.tick+i, b), b: areaOf(s.w, s.tick+i+1, next)})
		b = next
	}
	return l
}

// fateOf is the fate of a box, as the chapter writes it.
func fateOf(s scene, b api.Box) api.Fate {
	l, r := passagesOf(s, b), s.w.Bodies[s.w.Home].Radius
	if i := slices.IndexFunc(l, func(p pass) bool { return p.surely(r) }); i >= 0 {
		return hit(i)
	}
	if i := slices.IndexFunc(l, func(p pass) bool { return !p.clear(r) }); i >= 0 {
		return open(i)
	}
	return miss()
}

// coverOf is the cover of a box, as the chapter writes it.
func coverOf(s scene, b api.Box, rounds int) []api.Cell {
	cells := []api.Cell{{Box: b, Fate: fateOf(s, b)}}
	for range rounds {
		var next []api.Cell
		for _, c := range cells {
			low, high, ok := orbit.Split(c.Box)
			if c.Fate.Kind == api.FateOpen && ok {
				next = append(next, api.Cell{Box: low, Fate: fateOf(s, low)}, api.Cell{Box: high, Fate: fateOf(s, high)})
			} else {
				next = append(next, c)
			}
		}
		if len(next) > 512 {
			break
		}
		cells = next
	}
	return cells
}

// returnsOf are the returns of a box, as the chapter writes them.
func returnsOf(s scene, b api.Box, near int64) []int {
	var l []int
	for i, p := range passagesOf(s, b) {
		if !p.clear(near) {
			l = append(l, i)
		}
	}
	return l
}

// keyholeOf is the keyhole of a box, as the chapter writes it, and whether there is one.
func keyholeOf(s scene, b api.Box, near int64) (api.Keyhole, bool) {
	l, r := passagesOf(s, b), s.w.Bodies[s.w.Home].Radius
	i := slices.IndexFunc(l, func(p pass) bool { return !p.clear(near) })
	if i < 0 {
		return api.Keyhole{}, false
	}
	tick := s.tick + int64(i)
	back := slices.ContainsFunc(l[i+1:], func(p pass) bool { return !p.clear(r) })
	if aim, ok := aimOf(l[i].a, l[i].b); ok && !l[i].lost {
		return api.Keyhole{Tick: tick, Line: aim}, back
	}
	return hole(tick, -num, num), back || l[i].lost
}

// keyholesOf are the keyholes of a set, as the chapter writes them: any two that touch are put together, again and again.
func keyholesOf(s scene, near int64) []api.Keyhole {
	var l []api.Keyhole
	for _, b := range s.l {
		if k, ok := keyholeOf(s, b, near); ok {
			l = append(l, k)
		}
	}
	for {
		i, j, ok := touching(l)
		if !ok {
			break
		}
		l[i].Line = of(min(l[i].Line.Lo, l[j].Line.Lo), max(l[i].Line.Hi, l[j].Line.Hi))
		l = slices.Delete(l, j, j+1)
	}
	slices.SortFunc(l, func(a, b api.Keyhole) int {
		return cmp.Or(cmp.Compare(a.Tick, b.Tick), cmp.Compare(a.Line.Lo, b.Line.Lo))
	})
	return l
}

// touching finds two keyholes of one tick that have a number in common, or follow one another.
func touching(l []api.Keyhole) (int, int, bool) {
	for i, a := range l {
		for j, b := range l {
			if i != j && a.Tick == b.Tick && a.Line.Lo <= b.Line.Hi+1 && b.Line.Lo <= a.Line.Hi+1 {
				return i, j, true
			}
		}
	}
	return 0, 0, false
}

// floor returns a / b, rounded down, for a b above 0.
func floor(a, b int64) int64 {
	n := a / b
	if n*b > a {
		n--
	}
	return n
}

// ceil returns a / b, rounded up, for a b above 0.
func ceil(a, b int64) int64 { return -floor(-a, b) }

// squareRoot returns the square root of n, rounded down, for numbers that are not too great.
func squareRoot(n int64) int64 {
	r := int64(0)
	for bit := int64(1) << 31; bit > 0; bit /= 2 {
		if (r+bit)*(r+bit) <= n {
			r += bit
		}
	}
	return r
}

// minus is the span of all differences.
func minus(a, b api.Span) api.Span { return of(a.Lo-b.Hi, a.Hi-b.Lo) }

// times is the span of all products.
func times(a, b api.Span) api.Span {
	l := []int64{a.Lo * b.Lo, a.Lo * b.Hi, a.Hi * b.Lo, a.Hi * b.Hi}
	return of(slices.Min(l), slices.Max(l))
}

// squares is the span of all squares.
func squares(a api.Span) api.Span {
	most := max(a.Lo*a.Lo, a.Hi*a.Hi)
	if a.Lo <= 0 && 0 <= a.Hi {
		return of(0, most)
	}
	return of(min(a.Lo*a.Lo, a.Hi*a.Hi), most)
}

// aimOf is the aim of a passage, as the chapter writes it.
func aimOf(a, b api.Area) (api.Span, bool) {
	cross := minus(times(a.X, b.Y), times(a.Y, b.X))
	x, y := squares(minus(b.X, a.X)), squares(minus(b.Y, a.Y))
	lo, hi := squareRoot(x.Lo+y.Lo), squareRoot(x.Hi+y.Hi)
	if hi*hi < x.Hi+y.Hi {
		hi++
	}
	if lo == 0 {
		return api.Span{}, false
	}
	return of(min(floor(cross.Lo, lo), floor(cross.Lo, hi)), max(ceil(cross.Hi, lo), ceil(cross.Hi, hi))), true
}

// isIn reports whether a lies inside b.
func isIn(a, b api.Span) bool { return b.Lo <= a.Lo && a.Hi <= b.Hi }

// hits reports whether a list of states from a tick on hits in the passage i.
func hits(s scene, l []api.State, i int) bool {
	p, q := homeOf(s.w, s.tick+int64(i)), homeOf(s.w, s.tick+int64(i)+1)
	return span.Within(at(l[i].X-p.X, l[i].Y-p.Y), at(l[i+1].X-q.X, l[i+1].Y-q.Y), s.w.Bodies[s.w.Home].Radius)
}
