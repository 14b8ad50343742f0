package meet

import (
	"iter"

	"bolide/api"
	"bolide/force"
	"bolide/orbit"
	"bolide/sky"
	"bolide/span"
)

// check returns the error of the question.
func check(w api.World, d api.Drift, tick int64, ticks int) api.Errno {
	if e := sky.CheckWorld(w); e != api.OK {
		return e
	}
	if e := force.CheckDrift(d); e != api.OK {
		return e
	}
	if ticks < 1 || ticks > api.MaxTicks || tick < 0 || tick > api.MaxTick-int64(ticks) {
		return api.ErrRange
	}
	return api.OK
}

// checkBox returns the error of the question, or that of a box.
func checkBox(w api.World, d api.Drift, tick int64, ticks int, b api.Box) api.Errno {
	if e := check(w, d, tick, ticks); e != api.OK {
		return e
	}
	return orbit.Check(b)
}

// checkSet returns the error of the question, or that of a set.
func checkSet(w api.World, d api.Drift, tick int64, ticks int, l []api.Box) api.Errno {
	if e := check(w, d, tick, ticks); e != api.OK {
		return e
	}
	return orbit.CheckSet(l)
}

// question is a right question. It has a world for each tick, the last one too, in which all bodies stay where they are then.
type question struct {
	worlds []api.World
	drift  api.Drift
	tick   int64
	ticks  int
}

// ask returns the question of arguments that are right.
func ask(w api.World, d api.Drift, tick int64, ticks int) question {
	q := question{drift: d, tick: tick, ticks: ticks}
	for i := range int64(ticks + 1) {
		q.worlds = append(q.worlds, still(w, tick+i))
	}
	return q
}

// still returns a valid world in which each body stays where it is at a tick.
// The lower layers look through all tracks in each call: with tracks of one place that is soon done, however many boxes there are.
func still(w api.World, tick int64) api.World {
	var bodies []api.Body
	for i, b := range w.Bodies {
		b.Track = []api.Vec{sky.At(api.World{Bodies: w.Bodies[i : i+1]}, 0, tick)}
		bodies = append(bodies, b)
	}
	return api.World{Bodies: bodies, Home: w.Home}
}

// radius returns the radius of Home.
func (q question) radius() int64 {
	return radiusOf(q.worlds[0])
}

// passage is the passage of a box with a number: it goes from the area a to the area b, unless the box is lost in it.
type passage struct {
	number int
	lost   bool
	a, b   api.Area
}

// isClear reports whether a passage is clear of r.
func (p passage) isClear(r int64) bool {
	return !p.lost && span.Clear(p.a, p.b, r)
}

// isSure reports whether a passage surely comes within r.
func (p passage) isSure(r int64) bool {
	return !p.lost && span.Hits(p.a, p.b, r)
}

// passages hands out the passages of a valid box; none after the one in which it is lost.
func (q question) passages(b api.Box) iter.Seq[passage] {
	return func(yield func(passage) bool) {
		for i := range q.ticks {
			tick := q.tick + int64(i)
			next, e := orbit.Step(q.worlds[i], q.drift, tick, b)
			if e != api.OK {
				yield(passage{number: i, lost: true})
				return
			}
			if !yield(passage{number: i, a: areaOf(q.worlds[i], tick, b), b: areaOf(q.worlds[i+1], tick+1, next)}) {
				return
			}
			b = next
		}
	}
}

// fold makes a fate of passages, one after the other, for the radius r of Home.
type fold struct {
	r    int64
	fate api.Fate
}

// state is what a fold does with the next passage; it returns its next state, nil if the fate stays as it is.
type state func(p passage) state

// missing is the state in which all passages were clear.
func (f *fold) missing(p passage) state {
	if p.isClear(f.r) {
		return f.missing
	}
	f.fate = api.Fate{Kind: api.FateOpen, Passage: p.number}
	return f.open(p)
}

// open is the state in which a passage was not clear, and none is known that surely hits.
func (f *fold) open(p passage) state {
	if !p.isSure(f.r) {
		return f.open
	}
	f.fate = api.Fate{Kind: api.FateHit, Passage: p.number}
	return nil
}

// fate returns the fate of a valid box.
func (q question) fate(b api.Box) api.Fate {
	f := fold{r: q.radius(), fate: api.Fate{Kind: api.FateMiss, Passage: -1}}
	take := state(f.missing)
	for p := range q.passages(b) {
		if take = take(p); take == nil {
			break
		}
	}
	return f.fate
}

// Find returns the fate of a box.
func Find(w api.World, d api.Drift, tick int64, b api.Box, ticks int) (api.Fate, api.Errno) {
	if e := checkBox(w, d, tick, ticks, b); e != api.OK {
		return api.Fate{}, e
	}
	return ask(w, d, tick, ticks).fate(b), api.OK
}
