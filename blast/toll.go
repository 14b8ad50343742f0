package blast

import (
	"bolide/api"
	"bolide/span"
)

// scene is where blows are: all of it is valid.
type scene struct {
	air    []api.Layer
	grades []api.Grade
	land   api.Land
}

// checkScene reports what is wrong with the grades, and then with the land.
func checkScene(g []api.Grade, x api.Land) api.Errno {
	if e := CheckGrades(g); e != api.OK {
		return e
	}
	return CheckLand(x)
}

// effect is what a blow does: how far it reaches, and whom it harms so far from a cell.
type effect struct {
	reach int64
	harms func(x api.Land, at int, reach int64) int64
}

// effectOf returns what a blow of a layer with an energy does at a cell: on water, the ground is where it makes a wave.
func (c scene) effectOf(layer int, energy int64, at int) effect {
	reach, above := reachOf(c.grades, energy), len(c.air)-layer
	if above == 0 && c.land.Water[at] {
		return effect{reach, waveOf}
	}
	return effect{max(reach-int64(above), 0), harmOf}
}

// harm returns the harm of a blow of a layer with an energy at a cell.
func (c scene) harm(layer int, energy int64, at int) int64 {
	f := c.effectOf(layer, energy, at)
	return f.harms(c.land, at, f.reach)
}

// Harms returns the harm of a blow of a layer with an energy at a cell.
func Harms(l []api.Layer, g []api.Grade, x api.Land, layer int, energy int64, at int) (int64, api.Errno) {
	if e := CheckAir(l); e != api.OK {
		return 0, e
	}
	if e := checkScene(g, x); e != api.OK {
		return 0, e
	}
	if layer < 0 || layer > len(l) {
		return 0, api.ErrRange
	}
	if !isCell(x, at) {
		return 0, api.ErrMissing
	}
	return scene{l, g, x}.harm(layer, energy, at), api.OK
}

// toll returns the least and the greatest harm of blows at a cell.
func (c scene) toll(l []api.Blow, at int) api.Span {
	bounds := func(b api.Blow) api.Span {
		return api.Span{Lo: c.harm(b.Layer, b.Energy.Lo, at), Hi: c.harm(b.Layer, b.Energy.Hi, at)}
	}
	toll := bounds(l[0])
	for _, b := range l[1:] {
		toll = span.Hull(toll, bounds(b))
	}
	return toll
}

// tolls returns the tolls of a rock with a fall at each cell of a stretch.
func tolls(l []api.Layer, g []api.Grade, x api.Land, k api.Rock, f api.Fall, from, to int) ([]api.Span, api.Errno) {
	blows, e := Blows(l, k, f)
	if e != api.OK {
		return nil, e
	}
	if e := checkScene(g, x); e != api.OK {
		return nil, e
	}
	if !isCell(x, from) || !isCell(x, to) {
		return nil, api.ErrMissing
	}
	if from > to {
		return nil, api.ErrOrder
	}
	var list []api.Span
	for at := from; at <= to; at++ {
		list = append(list, scene{l, g, x}.toll(blows, at))
	}
	return list, api.OK
}

// Toll returns how many people a rock with a fall harms on a stretch of cells, at least and at most.
func Toll(l []api.Layer, g []api.Grade, x api.Land, k api.Rock, f api.Fall, from, to int) (api.Span, api.Errno) {
	list, e := tolls(l, g, x, k, f, from, to)
	if e != api.OK {
		return api.Span{}, e
	}
	toll := list[0]
	for _, t := range list[1:] {
		toll = span.Hull(toll, t)
	}
	return toll, api.OK
}

// Worst returns the first cell of a stretch at which a rock with a fall harms the most people that it may harm.
func Worst(l []api.Layer, g []api.Grade, x api.Land, k api.Rock, f api.Fall, from, to int) (int, api.Errno) {
	list, e := tolls(l, g, x, k, f, from, to)
	if e != api.OK {
		return 0, e
	}
	worst := 0
	for i, t := range list {
		if t.Hi > list[worst].Hi {
			worst = i
		}
	}
	return from + worst, api.OK
}
