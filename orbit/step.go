package orbit

import (
	"bolide/api"
	"bolide/force"
	"bolide/sky"
)

// plus returns the sums of a number of a and one of b.
func plus(a, b api.Span) api.Span {
	return api.Span{Lo: a.Lo + b.Lo, Hi: a.Hi + b.Hi}
}

// placesOf returns the places of a box.
func placesOf(b api.Box) api.Area {
	return api.Area{X: b.X, Y: b.Y}
}

// checkMoves returns the error of what moves a body.
func checkMoves(w api.World, d api.Drift) api.Errno {
	if e := sky.CheckWorld(w); e != api.OK {
		return e
	}
	return force.CheckDrift(d)
}

// isPossible reports whether next is a possible successor of s in the tick.
func isPossible(w api.World, d api.Drift, tick int64, s, next api.State) bool {
	if next.X != s.X+next.U || next.Y != s.Y+next.V {
		return false
	}
	pull, e := force.Pull(w, d, tick, api.Vec{X: s.X, Y: s.Y})
	return e == api.OK && isPart(only(next.U-s.U), pull.X) && isPart(only(next.V-s.V), pull.Y)
}

// Possible reports whether next is a possible successor of s.
func Possible(w api.World, d api.Drift, tick int64, s, next api.State) bool {
	return tick < api.MaxTick && CheckState(s) == api.OK && CheckState(next) == api.OK && isPossible(w, d, tick, s, next)
}

// Truth returns the number of the first state that is not valid, or not a possible successor of the one before it; -1 if there is none, 0 if another argument is not valid.
func Truth(w api.World, d api.Drift, tick int64, l []api.State) int {
	if checkMoves(w, d) != api.OK || tick < 0 || tick > api.MaxTick || tick+int64(len(l))-1 > api.MaxTick {
		return 0
	}
	for i, s := range l {
		if CheckState(s) != api.OK || i > 0 && !Possible(w, d, tick+int64(i)-1, l[i-1], s) {
			return i
		}
	}
	return -1
}

// Step returns the step of a box.
func Step(w api.World, d api.Drift, tick int64, b api.Box) (api.Box, api.Errno) {
	if e := checkMoves(w, d); e != api.OK {
		return api.Box{}, e
	}
	if tick < 0 || tick >= api.MaxTick {
		return api.Box{}, api.ErrRange
	}
	if e := Check(b); e != api.OK {
		return api.Box{}, e
	}
	return step(w, d, tick, b)
}

// step returns the step of a valid box, all other arguments being valid, too; ErrOver if it is beyond the limits.
func step(w api.World, d api.Drift, tick int64, b api.Box) (api.Box, api.Errno) {
	moves, e := force.Over(w, d, tick, placesOf(b))
	if e != api.OK {
		return api.Box{}, e
	}
	u, v := plus(b.U, moves.X), plus(b.V, moves.Y)
	next := api.Box{X: plus(b.X, u), Y: plus(b.Y, v), U: u, V: v}
	if Check(next) != api.OK {
		return api.Box{}, api.ErrOver
	}
	return next, api.OK
}

// stepAll returns the steps of all boxes, or ErrOver if one of them is beyond the limits; all arguments are valid.
func stepAll(w api.World, d api.Drift, tick int64, l []api.Box) ([]api.Box, api.Errno) {
	var steps []api.Box
	for _, b := range l {
		next, e := step(w, d, tick, b)
		if e != api.OK {
			return nil, e
		}
		steps = append(steps, next)
	}
	return steps, api.OK
}
