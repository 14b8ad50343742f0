// Package meet finds out whether small bodies hit Home: exactly for states, outwards for boxes. It covers sets with cells that miss, hit or are open, sums chances exactly, and finds the keyholes through which a body comes back.
package meet

import (
	"bolide/api"
	"bolide/orbit"
	"bolide/sky"
	"bolide/span"
)

// homeAt returns Home's place at a tick, both being valid.
// The sky looks through all tracks in each call: so it is given Home alone.
func homeAt(w api.World, tick int64) api.Vec {
	return sky.At(api.World{Bodies: w.Bodies[w.Home : w.Home+1]}, 0, tick)
}

// radiusOf returns the radius of Home in a valid world.
func radiusOf(w api.World) int64 {
	return w.Bodies[w.Home].Radius
}

// begins reports whether a passage can begin at a tick.
func begins(tick int64) bool {
	return 0 <= tick && tick < api.MaxTick
}

// relative returns a place less Home's place at a tick; all arguments are valid.
func relative(w api.World, tick int64, p api.Vec) api.Vec {
	home := homeAt(w, tick)
	return api.Vec{X: p.X - home.X, Y: p.Y - home.Y}
}

// Relative returns a place less Home's place at a tick, and true; false if an argument is not valid.
func Relative(w api.World, tick int64, p api.Vec) (api.Vec, bool) {
	if sky.CheckWorld(w) != api.OK || tick < 0 || tick > api.MaxTick || orbit.CheckState(api.State{X: p.X, Y: p.Y}) != api.OK {
		return api.Vec{}, false
	}
	return relative(w, tick, p), true
}

// comesWithin is Within in a valid world.
func comesWithin(w api.World, tick int64, s, next api.State, r int64) bool {
	if !begins(tick) || orbit.CheckState(s) != api.OK || orbit.CheckState(next) != api.OK {
		return false
	}
	return span.Within(relative(w, tick, api.Vec{X: s.X, Y: s.Y}), relative(w, tick+1, api.Vec{X: next.X, Y: next.Y}), r)
}

// Within reports whether the passage from the state s at a tick to the state next comes within r.
func Within(w api.World, tick int64, s, next api.State, r int64) bool {
	return sky.CheckWorld(w) == api.OK && comesWithin(w, tick, s, next, r)
}

// Hit returns the number of the first passage in a list of states, from a tick on, that hits; -1 if there is none.
func Hit(w api.World, tick int64, l []api.State) int {
	if sky.CheckWorld(w) != api.OK || !begins(tick) {
		return -1
	}
	for i := range len(l) - 1 {
		if comesWithin(w, tick+int64(i), l[i], l[i+1], radiusOf(w)) {
			return i
		}
	}
	return -1
}

// less returns the numbers of a span less n.
func less(s api.Span, n int64) api.Span {
	return api.Span{Lo: s.Lo - n, Hi: s.Hi - n}
}

// areaOf returns the places of a box less Home's place at a tick; all arguments are valid.
func areaOf(w api.World, tick int64, b api.Box) api.Area {
	home := homeAt(w, tick)
	return api.Area{X: less(b.X, home.X), Y: less(b.Y, home.Y)}
}

// Areas returns the areas of the passage from a box at a tick to a box at the next one, and true; false if an argument is not valid.
func Areas(w api.World, tick int64, from, to api.Box) (a, b api.Area, ok bool) {
	if sky.CheckWorld(w) != api.OK || !begins(tick) || orbit.Check(from) != api.OK || orbit.Check(to) != api.OK {
		return api.Area{}, api.Area{}, false
	}
	return areaOf(w, tick, from), areaOf(w, tick+1, to), true
}

// May reports whether the passage from a box to another one is not clear of r; true if an argument is not valid.
func May(w api.World, tick int64, from, to api.Box, r int64) bool {
	a, b, ok := Areas(w, tick, from, to)
	return !ok || !span.Clear(a, b, r)
}

// Sure reports whether the passage from a box to another one surely comes within r; false if an argument is not valid.
func Sure(w api.World, tick int64, from, to api.Box, r int64) bool {
	a, b, ok := Areas(w, tick, from, to)
	return ok && span.Hits(a, b, r)
}
