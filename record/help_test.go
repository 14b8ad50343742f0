package record_test

import (
	"encoding/binary"
	"math"
	"slices"

	"bolide/api"
	"bolide/force"
	"bolide/meet"
	"bolide/orbit"
	"bolide/record"
	"bolide/sky"
)

const (
	place = int64(api.MaxPlace)
	speed = int64(api.MaxSpeed)
	end   = int64(api.MaxTick)
	least = int64(math.MinInt64)
	most  = int64(math.MaxInt64)
)

func at(x, y int64) api.Vec { return api.Vec{X: x, Y: y} }

func of(lo, hi int64) api.Span { return api.Span{Lo: lo, Hi: hi} }

func only(n int64) api.Span { return of(n, n) }

// alone is the box of one state.
func alone(x, y, u, v int64) api.Box {
	return api.Box{X: only(x), Y: only(y), U: only(u), V: only(v)}
}

func boxes(l ...api.Box) []api.Box { return l }

func outcome(out, left, miss, hit int) api.Outcome {
	return api.Outcome{Out: out, Left: left, Miss: miss, Hit: hit}
}

// lost is the outcome of a set of which a box went beyond the limits.
func lost() api.Outcome { return outcome(api.OutLost, 0, 0, 0) }

// distance is a range from the station 1.
func distance(tick, lo, hi int64) api.Sight {
	return api.Sight{Kind: api.SightRange, Station: 1, Tick: tick, Lo: lo, Hi: hi}
}

// sight, drift, back and decide make entries.
func sight(known int64, x api.Sight) api.Entry {
	return api.Entry{Kind: api.EntrySight, Known: known, Sight: x}
}

func drift(known int64, d api.Drift) api.Entry {
	return api.Entry{Kind: api.EntryDrift, Known: known, Drift: d}
}

func back(known int64, n int) api.Entry {
	return api.Entry{Kind: api.EntryBack, Known: known, Back: n}
}

func decide(known int64, ahead int, o api.Outcome) api.Entry {
	return api.Entry{Kind: api.EntryDecide, Known: known, Ahead: ahead, Outcome: o}
}

// drill makes an entry one of an exercise.
func drill(x api.Entry) api.Entry {
	x.Exercise = true
	return x
}

// example is the file F of the chapter's examples.
func example() api.File {
	return api.File{
		Sky: api.Sky{World: api.World{Bodies: []api.Body{{Radius: 10, Track: []api.Vec{at(0, 0)}}}}, Stations: []api.Station{{ID: 1}}},
		Set: boxes(alone(100, 0, -10, 0), alone(100, 40, -10, 0)),
	}
}

// exampleA, exampleB and exampleD are the entries A, B and D of the chapter's examples; D has the outcome that it has behind A.
func exampleA() api.Entry { return sight(5, distance(4, 0, 65)) }

func exampleB() api.Entry { return back(6, 0) }

func exampleD() api.Entry { return decide(5, 10, outcome(api.OutSure, 1, 0, 1)) }

// with returns a file with more entries.
func with(f api.File, l ...api.Entry) api.File {
	f.Entries = slices.Concat(f.Entries, l)
	return f
}

// later makes an entry known at a tick.
func later(x api.Entry, known int64) api.Entry {
	x.Known = known
	return x
}

// sunny is a sky with a sun, a Home that moves, two stations and two catalogs.
func sunny() api.Sky {
	return api.Sky{
		World: api.World{Bodies: []api.Body{
			{Mu: 1000, Radius: 3, Track: []api.Vec{at(7, 5)}},
			{Mu: 10, Radius: 10, Track: []api.Vec{at(100, 0), at(90, -10), at(80, 0)}},
		}, Home: 1},
		Stations: []api.Station{{ID: 1}, {ID: 4, Off: at(3, -2)}},
		Catalogs: []api.Catalog{{Version: 1}, {Version: 3, Bias: of(-100000, 50000)}},
	}
}

// full is a valid file with parts of each kind, in which all numbers of one place differ.
func full() api.File {
	angle := api.Sight{Kind: api.SightAngle, Station: 1, Catalog: 3, Tick: 20, Dir: at(-3, 4), Err: 400000, Lo: -5, Hi: -6}
	empty := api.Sight{Kind: api.SightEmpty, Station: 4, Catalog: 1, Tick: 22, Dir: at(7, -8), Err: 9, Lo: -10, Hi: 11}
	return api.File{
		Sky: sunny(), Drift: api.Drift{Light: of(1, 2), Heat: of(-3, 4), Gas: 5}, Tick: 20,
		Set: boxes(api.Box{X: of(-400, -390), Y: of(11, 12), U: of(15, 16), V: of(-2, -1)}, alone(500, 40, -30, 1)),
		Entries: []api.Entry{
			sight(20, angle),
			drift(21, api.Drift{Light: of(3, 5), Heat: of(-7, -6), Gas: 2}),
			drill(sight(21, distance(21, 12, 1<<20))),
			decide(22, 30, outcome(api.OutOpen, 7, 5, 1)),
			drill(decide(23, 400, outcome(api.OutSafe, 4, 3, 2))),
			back(23, 0),
			drill(back(24, 2)),
			drill(drift(25, api.Drift{Light: of(8, 9), Heat: of(10, 11), Gas: 12})),
			drill(sight(25, empty)),
			decide(420, 1, lost()),
		},
	}
}

// model is what the chapter says of a decision, written anew: its facts.
func modelFacts(f api.File, n int) []int {
	var l []int
	for i, x := range f.Entries[:n] {
		gone := slices.ContainsFunc(f.Entries[:n], func(y api.Entry) bool { return y.Kind == 3 && y.Back == i })
		if (x.Kind == 1 || x.Kind == 2) && !gone && (!x.Exercise || f.Entries[n].Exercise) {
			l = append(l, i)
		}
	}
	return l
}

// modelOutcome is the outcome of a decision, as the chapter writes it.
func modelOutcome(f api.File, n int) api.Outcome {
	x, now := f.Entries[n], f.Drift
	var sights []api.Sight
	for _, i := range modelFacts(f, n) {
		if f.Entries[i].Kind == 2 {
			now = f.Entries[i].Drift
		} else {
			sights = append(sights, f.Entries[i].Sight)
		}
	}
	l, e := orbit.Update(f.Sky, now, f.Tick, f.Set, int(x.Known-f.Tick), sights)
	if e == api.ErrOver {
		return outcome(5, 0, 0, 0)
	}
	o := outcome(4, len(l), 0, 0)
	for _, b := range l {
		fate, f := meet.Find(f.Sky.World, now, x.Known, b, x.Ahead)
		if e != api.OK || f != api.OK {
			panic("an error")
		}
		if fate.Kind == api.FateMiss {
			o.Miss++
		}
		if fate.Kind == api.FateHit {
			o.Hit++
		}
	}
	if o.Left == 0 {
		o.Out = 1
	} else if o.Miss == o.Left {
		o.Out = 2
	} else if o.Hit == o.Left {
		o.Out = 3
	}
	return o
}

// ink writes numbers as bytes.
type ink []byte

func (k *ink) put(l ...int64) {
	for _, n := range l {
		*k = binary.BigEndian.AppendUint64(*k, uint64(n))
	}
}

// modelBytes are the bytes of any file, as the chapter writes them.
func modelBytes(f api.File) string {
	k := ink("bol1")
	k.put(int64(len(f.Sky.World.Bodies)))
	for _, b := range f.Sky.World.Bodies {
		k.put(b.Mu, b.Radius, int64(len(b.Track)))
		for _, p := range b.Track {
			k.put(p.X, p.Y)
		}
	}
	k.put(int64(f.Sky.World.Home), int64(len(f.Sky.Stations)))
	for _, o := range f.Sky.Stations {
		k.put(int64(o.ID), o.Off.X, o.Off.Y)
	}
	k.put(int64(len(f.Sky.Catalogs)))
	for _, c := range f.Sky.Catalogs {
		k.put(int64(c.Version), c.Bias.Lo, c.Bias.Hi)
	}
	drift := func(d api.Drift) { k.put(d.Light.Lo, d.Light.Hi, d.Heat.Lo, d.Heat.Hi, d.Gas) }
	drift(f.Drift)
	k.put(f.Tick, int64(len(f.Set)))
	for _, b := range f.Set {
		k.put(b.X.Lo, b.X.Hi, b.Y.Lo, b.Y.Hi, b.U.Lo, b.U.Hi, b.V.Lo, b.V.Hi)
	}
	k.put(int64(len(f.Entries)))
	for _, x := range f.Entries {
		exercise := int64(0)
		if x.Exercise {
			exercise = 1
		}
		k.put(int64(x.Kind), x.Known, exercise)
		switch s, o := x.Sight, x.Outcome; x.Kind {
		case 1:
			k.put(int64(s.Kind), int64(s.Station), int64(s.Catalog), s.Tick, s.Dir.X, s.Dir.Y, s.Err, s.Lo, s.Hi)
		case 2:
			drift(x.Drift)
		case 3:
			k.put(int64(x.Back))
		case 4:
			k.put(int64(x.Ahead), int64(o.Out), int64(o.Left), int64(o.Miss), int64(o.Hit))
		}
	}
	return string(k)
}

// written is a file in which the parts of entries that are not written are 0.
func written(f api.File) api.File {
	var l []api.Entry
	for _, x := range f.Entries {
		y := api.Entry{Kind: x.Kind, Known: x.Known, Exercise: x.Exercise}
		switch x.Kind {
		case 1:
			y.Sight = x.Sight
		case 2:
			y.Drift = x.Drift
		case 3:
			y.Back = x.Back
		case 4:
			y.Ahead, y.Outcome = x.Ahead, x.Outcome
		}
		l = append(l, y)
	}
	f.Entries = l
	return f
}

// draw hands out numbers that look arbitrary, the same ones in each run.
type draw uint64

func (d *draw) next() int64 {
	*d = *d*6364136223846793005 + 1442695040888963407
	return int64(*d ^ *d>>29)
}

// upTo returns a number from -n to n.
func (d *draw) upTo(n int64) int64 { return d.next() % (n + 1) }

// below returns a number from 0 to n - 1.
func (d *draw) below(n int64) int64 { return int64(uint64(d.next()) % uint64(n)) }

// in returns a number of s.
func (d *draw) in(s api.Span) int64 { return s.Lo + d.below(s.Hi-s.Lo+1) }

// chance is true once in n times.
func (d *draw) chance(n int64) bool { return d.below(n) == 0 }

// scene is a valid file, with a truth that begins in its set (if that is not empty).
type scene struct {
	f     api.File
	truth []api.State
}

// homeOf is Home's place at a tick.
func homeOf(w api.World, tick int64) api.Vec {
	track := w.Bodies[w.Home].Track
	return track[tick%int64(len(track))]
}

// world returns a world of up to three bodies.
func (d *draw) world() api.World {
	var w api.World
	for range 1 + d.below(3) {
		b := api.Body{Mu: d.below(1 << d.below(10)), Radius: d.below(50)}
		for range 1 + d.below(3) {
			b.Track = append(b.Track, at(d.upTo(100), d.upTo(100)))
		}
		w.Bodies = append(w.Bodies, b)
	}
	w.Home = int(d.below(int64(len(w.Bodies))))
	return w
}

// drift returns a valid drift that does not do much.
func (d *draw) drift() api.Drift {
	return api.Drift{Light: of(0, d.below(100)), Heat: of(-d.below(20), d.below(20)), Gas: d.below(3)}
}

// box returns a box that goes about towards Home, or, seldom, one that soon goes beyond the limits.
func (d *draw) box(f api.File) api.Box {
	if d.chance(40) {
		return alone(place-20*d.below(10), 0, 10, 0)
	}
	n := 1 + d.below(10)
	p, u, v := homeOf(f.Sky.World, f.Tick+n), d.upTo(60), d.upTo(60)
	p = at(p.X+d.upTo(30)-u*n, p.Y+d.upTo(30)-v*n)
	about := func(n, wide int64) api.Span { return of(n-d.below(wide), n+d.below(wide)) }
	wide := []int64{1, 8, 20}[d.below(3)]
	return api.Box{X: about(p.X, wide), Y: about(p.Y, wide), U: about(u, 2), V: about(v, 2)}
}

// scene returns one whose file has no entries yet.
func (d *draw) scene() scene {
	s := scene{f: api.File{Sky: sunny(), Tick: d.below(9)}}
	s.f.Sky.World = d.world()
	if d.chance(2) {
		s.f.Drift = d.drift()
	}
	for range d.below(6) {
		s.f.Set = append(s.f.Set, d.box(s.f))
	}
	if len(s.f.Set) > 0 {
		s.truth = d.truthIn(s.f, s.f.Set[d.below(int64(len(s.f.Set)))])
	}
	return s
}

// truthIn returns a truth that begins in a box, and lasts as long as decisions look ahead, unless it leaves the limits.
func (d *draw) truthIn(f api.File, b api.Box) []api.State {
	l := []api.State{{X: d.in(b.X), Y: d.in(b.Y), U: d.in(b.U), V: d.in(b.V)}}
	for tick := f.Tick; tick < f.Tick+20; tick++ {
		last := l[len(l)-1]
		a, _ := force.Pull(f.Sky.World, f.Drift, tick, at(last.X, last.Y))
		next := api.State{U: last.U + d.in(a.X), V: last.V + d.in(a.Y)}
		next.X, next.Y = last.X+next.U, last.Y+next.V
		if orbit.CheckState(next) != api.OK {
			break
		}
		l = append(l, next)
	}
	return l
}

// look returns a valid sight at a tick.
func (d *draw) look(tick int64) api.Sight {
	x := api.Sight{Kind: int(1 + d.below(3)), Station: []int{1, 4}[d.below(2)], Catalog: []int{1, 3}[d.below(2)], Tick: tick, Err: d.below(api.MaxErr + 1)}
	for x.Dir == (api.Vec{}) {
		x.Dir = at(d.upTo(40), d.upTo(40))
	}
	x.Lo = d.below(300)
	x.Hi = max(1, x.Lo+d.below(400))
	return x
}

// agreed returns a sight at a tick with which a place agrees, and true.
func (d *draw) agreed(s api.Sky, tick int64, p api.Vec) (api.Sight, bool) {
	for range 30 {
		if x := d.look(tick); sky.Agrees(s, x, p) {
			return x, true
		}
	}
	return api.Sight{}, false
}

// sight returns a sight for a file; most of them agree with the truth.
func (d *draw) sight(s scene, known int64) api.Sight {
	tick := d.in(of(s.f.Tick, known))
	if n := tick - s.f.Tick; n < int64(len(s.truth)) && !d.chance(5) {
		if x, ok := d.agreed(s.f.Sky, tick, at(s.truth[n].X, s.truth[n].Y)); ok {
			return x
		}
	}
	return d.look(tick)
}

// known returns a tick for the next entry of a file: that of the last one, or some more.
func (d *draw) known(f api.File) int64 {
	last := f.Tick
	if n := len(f.Entries); n > 0 {
		last = f.Entries[n-1].Known
	}
	return min(f.Tick+8, last+d.below(3))
}

// standing returns the numbers of the facts that are not withdrawn.
func standing(l []api.Entry) []int {
	var facts []int
	for i, x := range l {
		if x.Kind <= 2 && !slices.ContainsFunc(l, func(y api.Entry) bool { return y.Kind == 3 && y.Back == i }) {
			facts = append(facts, i)
		}
	}
	return facts
}

// entry returns one that can be the next one of a file.
func (d *draw) entry(s scene) api.Entry {
	known, facts := d.known(s.f), standing(s.f.Entries)
	var x api.Entry
	switch n := d.below(10); {
	case n < 4:
		x = sight(known, d.sight(s, known))
	case n < 5:
		x = drift(known, d.drift())
	case n < 7 && len(facts) > 0:
		i := facts[d.below(int64(len(facts)))]
		x = back(known, i)
		x.Exercise = s.f.Entries[i].Exercise
		return x
	default:
		x = decide(known, int(1+d.below(8)), outcome(1+int(d.below(5)), int(d.below(6)), int(d.below(6)), int(d.below(6))))
	}
	x.Exercise = d.chance(3)
	return x
}

// clutter fills the parts of an entry that do not matter.
func (d *draw) clutter(x api.Entry) api.Entry {
	y := x
	y.Sight = api.Sight{Kind: int(d.upTo(9)), Tick: d.next(), Hi: d.next()}
	y.Drift, y.Back, y.Ahead, y.Outcome = api.Drift{Gas: d.next()}, int(d.upTo(9)), int(d.next()), outcome(int(d.next()), 1, 2, 3)
	switch x.Kind {
	case 1:
		y.Sight = x.Sight
	case 2:
		y.Drift = x.Drift
	case 3:
		y.Back = x.Back
	case 4:
		y.Ahead, y.Outcome = x.Ahead, x.Outcome
	}
	return y
}

// story returns a scene with up to n entries.
func (d *draw) story(n int64) scene {
	s := d.scene()
	for range d.below(n + 1) {
		s.f = with(s.f, d.clutter(d.entry(s)))
	}
	return s
}

// entered returns a file with the entries of another one, entered one by one.
func entered(f api.File) api.File {
	l := f.Entries
	f.Entries = nil
	for _, x := range l {
		next, e := record.Enter(f, x)
		if e != api.OK {
			panic(e)
		}
		f = next
	}
	return f
}

// decisions are the numbers of the decisions of a file.
func decisions(f api.File) []int {
	var l []int
	for n, x := range f.Entries {
		if x.Kind == api.EntryDecide {
			l = append(l, n)
		}
	}
	return l
}

// upTo is a file with its first n entries alone.
func upTo(f api.File, n int) api.File {
	f.Entries = f.Entries[:n:n]
	return f
}
