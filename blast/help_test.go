package blast_test

import (
	"math"
	"math/bits"
	"testing"

	"bolide/api"
	"bolide/blast"
)

const (
	num   = int64(api.MaxNum)
	crowd = int64(api.MaxPeople)
	least = int64(math.MinInt64)
	most  = int64(math.MaxInt64)
)

func of(lo, hi int64) api.Span { return api.Span{Lo: lo, Hi: hi} }

// one is the span of one number.
func one(n int64) api.Span { return of(n, n) }

func air(l ...api.Layer) []api.Layer { return l }

func layer(thick, dens int64) api.Layer { return api.Layer{Thick: thick, Dens: dens} }

func blow(n int, lo, hi int64) api.Blow { return api.Blow{Layer: n, Energy: of(lo, hi)} }

func blows(l ...api.Blow) []api.Blow { return l }

func grades(l ...api.Grade) []api.Grade { return l }

func grade(energy, reach int64) api.Grade { return api.Grade{Energy: energy, Reach: reach} }

// twoLayers is the air A of the chapter's examples.
func twoLayers() []api.Layer { return air(layer(100, 1), layer(100, 10)) }

// stone is the stone S of the chapter's examples.
func stone() api.Stone {
	return api.Stone{Size: 10, Dens: 1000, Strong: 1000000, Shape: 1000, Speed: 100, Slope: 1000}
}

// body is a rock with a fall.
type body struct {
	rock api.Rock
	fall api.Fall
}

// justOf returns the rock with the fall that is this stone alone.
func justOf(s api.Stone) body {
	return body{
		api.Rock{Size: one(s.Size), Dens: one(s.Dens), Strong: one(s.Strong), Spin: one(s.Spin), Shape: one(s.Shape), Pile: s.Pile},
		api.Fall{Speed: one(s.Speed), Slope: one(s.Slope)},
	}
}

// rock is the rock K with the fall F of the chapter's examples.
func rock() body {
	c := justOf(stone())
	c.rock.Strong = of(50000, 1000000)
	return c
}

// threeGrades are the grades G of the chapter's examples.
func threeGrades() []api.Grade { return grades(grade(0, 1), grade(5000000, 2), grade(20000000, 4)) }

// fiveCells is the land L of the chapter's examples.
func fiveCells() api.Land {
	return api.Land{People: []int64{10, 20, 30, 40, 50}, Water: []bool{false, false, true, true, false}}
}

// landOf returns a land with these people, where the signs of water are ~.
func landOf(signs string, people ...int64) api.Land {
	x := api.Land{People: people}
	for _, c := range signs {
		x.Water = append(x.Water, c == '~')
	}
	return x
}

// with returns something that was changed.
func with[T any](a T, change func(*T)) T {
	change(&a)
	return a
}

// partsOf returns where the numbers of a stone are, in the order of spansOf.
func partsOf(s *api.Stone) []*int64 {
	return []*int64{&s.Size, &s.Dens, &s.Strong, &s.Spin, &s.Shape, &s.Speed, &s.Slope}
}

// spansOf returns where the spans of a rock with a fall are, in the order of the chapter.
func spansOf(c *body) []*api.Span {
	return []*api.Span{&c.rock.Size, &c.rock.Dens, &c.rock.Strong, &c.rock.Spin, &c.rock.Shape, &c.fall.Speed, &c.fall.Slope}
}

// bounds are the numbers that a stone may have, in that order, as the chapter says.
func bounds() []api.Span {
	return []api.Span{of(1, 1000), of(1, 9000), of(0, 1<<40), of(0, 1000), of(500, 2000), of(1, 8000), of(1, 1000)}
}

// draw hands out numbers that look arbitrary, the same ones in each run.
type draw uint64

func (d *draw) next() int64 {
	*d = *d*6364136223846793005 + 1442695040888963407
	return int64(*d ^ *d>>29)
}

// below returns a number from 0 to n - 1.
func (d *draw) below(n int64) int64 { return int64(uint64(d.next()) % uint64(n)) }

// in returns a number of s, often one of its ends.
func (d *draw) in(s api.Span) int64 {
	switch d.below(4) {
	case 0:
		return s.Lo
	case 1:
		return s.Hi
	}
	return s.Lo + d.below(s.Hi-s.Lo+1)
}

// scale returns a number of s, of any number of bits.
func (d *draw) scale(s api.Span) int64 {
	bits := d.below(int64(bits.Len64(uint64(s.Hi))) + 1)
	return min(s.Hi, max(s.Lo, d.below(1<<bits+1)))
}

// inside returns a span inside another one.
func (d *draw) inside(s api.Span) api.Span {
	a, b := d.in(s), d.in(s)
	return of(min(a, b), max(a, b))
}

// stone returns a valid stone.
func (d *draw) stone() api.Stone {
	var s api.Stone
	l := bounds()
	for i, p := range partsOf(&s) {
		*p = d.scale(l[i])
	}
	s.Pile = d.below(2) == 0
	if d.below(2) == 0 {
		s.Size, s.Dens, s.Speed, s.Slope = 1+d.below(1000), 1+d.below(9000), 1+d.below(8000), 1+d.below(1000)
	}
	return s
}

// air returns up to n layers, of which most are thin.
func (d *draw) air(n int64) []api.Layer {
	var l []api.Layer
	for range d.below(n + 1) {
		l = append(l, layer(d.scale(of(1, 1000)), d.scale(of(0, 1000))))
	}
	return l
}

// rock returns a rock with a fall around a stone.
func (d *draw) rock(s api.Stone) body {
	c := justOf(s)
	l := bounds()
	for i, p := range spansOf(&c) {
		if d.below(2) == 0 {
			wide := d.scale(of(0, p.Lo/4+d.below(30)))
			*p = of(max(l[i].Lo, p.Lo-wide), min(l[i].Hi, p.Hi+d.scale(of(0, wide))))
		}
	}
	if d.below(3) == 0 {
		c.rock.Strong = of(d.scale(of(0, s.Strong)), d.scale(of(s.Strong, 1<<40)))
	}
	return c
}

// lesser returns a rock with a fall inside another one.
func (d *draw) lesser(c body) body {
	for _, p := range spansOf(&c) {
		if d.below(2) == 0 {
			*p = d.inside(*p)
		}
	}
	return c
}

// stoneOf returns a stone of a rock with a fall.
func (d *draw) stoneOf(c body) api.Stone {
	s := api.Stone{Pile: c.rock.Pile}
	l := spansOf(&c)
	for i, p := range partsOf(&s) {
		*p = d.in(*l[i])
	}
	return s
}

// grades returns valid grades.
func (d *draw) grades() []api.Grade {
	var l []api.Grade
	energy, reach := d.below(3), d.below(3)
	for range 1 + d.below(8) {
		l = append(l, grade(energy, reach))
		energy, reach = energy+1+d.scale(of(0, 1<<57)), min(400, reach+d.below(4))
	}
	return l
}

// land returns a valid land of 1 to n cells.
func (d *draw) land(n int64) api.Land {
	var x api.Land
	isWater := d.below(2) == 0
	for range 1 + d.below(n) {
		if d.below(4) == 0 {
			isWater = !isWater
		}
		x.People, x.Water = append(x.People, d.scale(of(0, crowd))), append(x.Water, isWater)
	}
	return x
}

// stretch returns the ends of a stretch of cells of a land.
func (d *draw) stretch(x api.Land) (from, to int) {
	s := d.inside(of(0, int64(len(x.People)-1)))
	return int(s.Lo), int(s.Hi)
}

// lostOf returns by how much w gets less in a layer, for a stone with these numbers.
func lostOf(a api.Layer, w, size, dens, shape, slope int64) int64 {
	way := a.Thick * 1000 / slope
	if way*slope < a.Thick*1000 {
		way++
	}
	hi, lo := bits.Mul64(uint64(w*a.Dens), uint64(way*shape))
	lost, _ := bits.Div64(hi, lo, uint64(dens*size*1000))
	return min(w, int64(lost))
}

func holdOf(strong, spin int64, pile bool) int64 {
	if pile {
		return strong * (1000 - spin) / 1000
	}
	return strong
}

// endOf follows a stone as the chapter's words have it.
func endOf(l []api.Layer, s api.Stone) (int, int64) {
	w, mass := s.Speed*s.Speed, s.Size*s.Size*s.Size*s.Dens/1000
	for i, a := range l {
		if a.Dens*w > 0 && a.Dens*w >= holdOf(s.Strong, s.Spin, s.Pile) {
			return i, mass * w
		}
		w -= lostOf(a, w, s.Size, s.Dens, s.Shape, s.Slope)
	}
	return len(l), mass * w
}

// blowsOf finds the blows of a rock with a fall as the chapter's words have it.
func blowsOf(l []api.Layer, c body) []api.Blow {
	k, f := c.rock, c.fall
	w := of(f.Speed.Lo*f.Speed.Lo, f.Speed.Hi*f.Speed.Hi)
	hold := of(holdOf(k.Strong.Lo, k.Spin.Hi, k.Pile), holdOf(k.Strong.Hi, k.Spin.Lo, k.Pile))
	mass := of(k.Size.Lo*k.Size.Lo*k.Size.Lo*k.Dens.Lo/1000, k.Size.Hi*k.Size.Hi*k.Size.Hi*k.Dens.Hi/1000)
	var list []api.Blow
	for i, a := range l {
		if a.Dens*w.Hi > 0 && a.Dens*w.Hi >= hold.Lo {
			list = append(list, blow(i, mass.Lo*w.Lo, mass.Hi*w.Hi))
		}
		if a.Dens*w.Lo > 0 && a.Dens*w.Lo >= hold.Hi {
			return list
		}
		w.Lo -= lostOf(a, w.Lo, k.Size.Lo, k.Dens.Lo, k.Shape.Hi, f.Slope.Lo)
		w.Hi -= lostOf(a, w.Hi, k.Size.Hi, k.Dens.Hi, k.Shape.Lo, f.Slope.Hi)
	}
	return append(list, blow(len(l), mass.Lo*w.Lo, mass.Hi*w.Hi))
}

// reachesFrom reports whether a wave from a cell comes to another one, if it may run as far: all cells before it are water.
func reachesFrom(x api.Land, from, to int) bool {
	for i := range x.People {
		if i != to && !x.Water[i] && (from <= i && i < to || to < i && i <= from) {
			return false
		}
	}
	return x.Water[from]
}

// peopleWhere returns how many people are in the cells that are meant.
func peopleWhere(x api.Land, isMeant func(cell int) bool) int64 {
	n := int64(0)
	for i, m := range x.People {
		if isMeant(i) {
			n += m
		}
	}
	return n
}

func isNear(a, b int, reach int64) bool { return int64(max(a-b, b-a)) <= reach }

// harmOf finds the harm of a blow as the chapter's words have it.
func harmOf(l []api.Layer, g []api.Grade, x api.Land, layer int, energy int64, at int) int64 {
	r := int64(0)
	for i := len(g) - 1; i >= 0; i-- {
		if g[i].Energy <= energy {
			r = g[i].Reach
			break
		}
	}
	if layer == len(l) && x.Water[at] {
		return peopleWhere(x, func(i int) bool { return isNear(i, at, r) && reachesFrom(x, at, i) })
	}
	r = max(0, r-int64(len(l)-layer))
	return peopleWhere(x, func(i int) bool { return isNear(i, at, r) })
}

// tollOf finds the toll, and the worst cell, as the chapter's words have it.
func tollOf(l []api.Layer, g []api.Grade, x api.Land, c body, from, to int) (api.Span, int) {
	toll, worst := of(most, least), from
	for at := from; at <= to; at++ {
		for _, b := range blowsOf(l, c) {
			toll.Lo = min(toll.Lo, harmOf(l, g, x, b.Layer, b.Energy.Lo, at))
			if n := harmOf(l, g, x, b.Layer, b.Energy.Hi, at); n > toll.Hi {
				toll.Hi, worst = n, at
			}
		}
	}
	return toll, worst
}

// endsOf is Ends of what is valid.
func endsOf(t *testing.T, l []api.Layer, s api.Stone) (int, int64) {
	t.Helper()
	n, energy, e := blast.Ends(l, s)
	if e != api.OK {
		t.Fatal(l, s, e)
	}
	return n, energy
}

// allBlows is Blows of what is valid.
func allBlows(t *testing.T, l []api.Layer, c body) []api.Blow {
	t.Helper()
	list, e := blast.Blows(l, c.rock, c.fall)
	if e != api.OK {
		t.Fatal(l, c, e)
	}
	return list
}

// scene is what Toll and Worst are asked for.
type scene struct {
	air      []api.Layer
	grades   []api.Grade
	land     api.Land
	body     body
	from, to int
}

func (c scene) toll() (api.Span, api.Errno) {
	return blast.Toll(c.air, c.grades, c.land, c.body.rock, c.body.fall, c.from, c.to)
}

func (c scene) worst() (int, api.Errno) {
	return blast.Worst(c.air, c.grades, c.land, c.body.rock, c.body.fall, c.from, c.to)
}

// scene returns a valid one, of which the grades tell the rock's energies apart.
func (d *draw) scene() scene {
	s := d.stone()
	c := scene{air: d.air(6), land: d.land(20), body: d.rock(s)}
	c.from, c.to = d.stretch(c.land)
	energy, reach := d.below(3), d.below(3)
	for range 1 + d.below(8) {
		c.grades = append(c.grades, grade(energy, reach))
		energy, reach = energy+1+d.below(s.Size*s.Size*s.Size*s.Dens/1000*s.Speed*s.Speed/4+1), reach+d.below(4)
	}
	return c
}
