// Package blast follows rocks through the air, for bounds of what they are made of, and bounds how many people are harmed: see shared/doc/07-blast.md.
package blast

import (
	"bolide/api"
	"bolide/span"
)

// limits are the numbers that a stone may have, in the order of numbersOf and of spansOf.
var limits = [...]api.Span{
	{Lo: 1, Hi: api.MaxSize},
	{Lo: 1, Hi: api.MaxDens},
	{Lo: 0, Hi: api.MaxStrong},
	{Lo: 0, Hi: 1000},
	{Lo: 500, Hi: 2000},
	{Lo: 1, Hi: api.MaxFall},
	{Lo: 1, Hi: 1000},
}

// numbersOf returns the numbers of a stone.
func numbersOf(s api.Stone) [len(limits)]int64 {
	return [...]int64{s.Size, s.Dens, s.Strong, s.Spin, s.Shape, s.Speed, s.Slope}
}

// spansOf returns the spans of a rock with a fall.
func spansOf(k api.Rock, f api.Fall) [len(limits)]api.Span {
	return [...]api.Span{k.Size, k.Dens, k.Strong, k.Spin, k.Shape, f.Speed, f.Slope}
}

// CheckRock reports what is wrong with a rock with a fall: ErrOrder or ErrRange, span by span.
func CheckRock(k api.Rock, f api.Fall) api.Errno {
	for i, s := range spansOf(k, f) {
		if s.Lo > s.Hi {
			return api.ErrOrder
		}
		if !span.Inside(s, limits[i]) {
			return api.ErrRange
		}
	}
	return api.OK
}

// CheckStone reports ErrRange if a stone has a number that no stone may have.
func CheckStone(s api.Stone) api.Errno {
	for i, n := range numbersOf(s) {
		if !span.In(limits[i], n) {
			return api.ErrRange
		}
	}
	return api.OK
}

// Of reports whether a stone is one of a rock with a fall.
func Of(s api.Stone, k api.Rock, f api.Fall) bool {
	if CheckStone(s) != api.OK || CheckRock(k, f) != api.OK || s.Pile != k.Pile {
		return false
	}
	spans := spansOf(k, f)
	for i, n := range numbersOf(s) {
		if !span.In(spans[i], n) {
			return false
		}
	}
	return true
}

// Mass returns the mass of a stone.
func Mass(s api.Stone) int64 {
	if CheckStone(s) != api.OK {
		return 0
	}
	return s.Size * s.Size * s.Size * s.Dens / 1000
}

// Holds returns what holds a stone together: a pile of rubble holds the less, the faster it spins.
func Holds(s api.Stone) int64 {
	if CheckStone(s) != api.OK {
		return 0
	}
	if s.Pile {
		return s.Strong * (1000 - s.Spin) / 1000
	}
	return s.Strong
}

// first returns the stone of a rock with a fall that bursts in no lower layer than any other one, and has the most energy on its way.
func first(k api.Rock, f api.Fall) api.Stone {
	return api.Stone{
		Size: k.Size.Hi, Dens: k.Dens.Hi, Strong: k.Strong.Lo, Spin: k.Spin.Hi, Shape: k.Shape.Lo,
		Pile: k.Pile, Speed: f.Speed.Hi, Slope: f.Slope.Hi,
	}
}

// last returns the stone of a rock with a fall that bursts in no higher layer than any other one, and has the least energy on its way.
func last(k api.Rock, f api.Fall) api.Stone {
	return api.Stone{
		Size: k.Size.Lo, Dens: k.Dens.Lo, Strong: k.Strong.Hi, Spin: k.Spin.Lo, Shape: k.Shape.Hi,
		Pile: k.Pile, Speed: f.Speed.Lo, Slope: f.Slope.Lo,
	}
}
