package watch_test

import (
	"math"
	"slices"

	"bolide/api"
	"bolide/orbit"
	"bolide/sky"
	"bolide/watch"
)

const (
	place   = int64(api.MaxPlace)
	speed   = int64(api.MaxSpeed)
	end     = int64(api.MaxTick)
	million = int64(api.Million)
	slope   = int64(api.Slope)
	least   = int64(math.MinInt64)
	most    = int64(math.MaxInt64)
)

func at(x, y int64) api.Vec { return api.Vec{X: x, Y: y} }

func of(lo, hi int64) api.Span { return api.Span{Lo: lo, Hi: hi} }

func state(x, y, u, v int64) api.State { return api.State{X: x, Y: y, U: u, V: v} }

func area(xlo, xhi, ylo, yhi int64) api.Area { return api.Area{X: of(xlo, xhi), Y: of(ylo, yhi)} }

// spot is the area of one place.
func spot(x, y int64) api.Area { return area(x, x, y, y) }

// areaOf is the area of the places of a box.
func areaOf(b api.Box) api.Area { return api.Area{X: b.X, Y: b.Y} }

// resting is the box of an area with the speed 0.
func resting(a api.Area) api.Box { return api.Box{X: a.X, Y: a.Y} }

// cells is the set of the boxes of these areas with the speed 0.
func cells(l ...api.Area) []api.Box {
	var set []api.Box
	for _, a := range l {
		set = append(set, resting(a))
	}
	return set
}

// row is n cells of one place each, 100 apart from each other along X.
func row(n int64) []api.Box {
	var set []api.Box
	for i := range n {
		set = append(set, resting(spot(100+100*i, 0)))
	}
	return set
}

func list(l ...int) []int { return l }

func plan(l ...api.Offer) []api.Offer { return l }

func value(m int64) api.Reading { return api.Reading{Is: api.ReadValue, Value: m} }

func nothing() api.Reading { return api.Reading{Is: api.ReadNothing} }

func failed() api.Reading { return api.Reading{Is: api.ReadFailed} }

// heaven is the sky S of the chapter's examples.
func heaven() api.Sky {
	return api.Sky{
		World:    api.World{Bodies: []api.Body{{Track: []api.Vec{at(0, 0)}}}},
		Stations: []api.Station{{ID: 1}},
		Catalogs: []api.Catalog{{Version: 1}},
	}
}

// radar is the offer R of the chapter's examples.
func radar() api.Offer {
	return api.Offer{Kind: api.SightRange, Station: 1, Err: 2, Far: 100, Cost: 3, Sure: true}
}

// telescope is the offer T of the chapter's examples.
func telescope() api.Offer {
	return api.Offer{Kind: api.SightAngle, Station: 1, Catalog: 1, Dir: at(1, 0), Err: 1000, Far: 1000, Wide: 500000, Cost: 1}
}

// with returns an offer that was changed.
func with(o api.Offer, change func(*api.Offer)) api.Offer {
	change(&o)
	return o
}

// busy is a sky with a sun, a Home that moves, a moon, two stations and two catalogs.
func busy() api.Sky {
	return api.Sky{
		World: api.World{Bodies: []api.Body{
			{Mu: 20000, Radius: 10, Track: []api.Vec{at(0, 0)}},
			{Mu: 500, Radius: 2, Track: []api.Vec{at(100, 0), at(90, 40), at(100, -10)}},
			{Radius: 1, Track: []api.Vec{at(130, 10), at(100, 60)}},
		}, Home: 1},
		Stations: []api.Station{{ID: 1}, {ID: 4, Off: at(3, -2)}},
		Catalogs: []api.Catalog{{Version: 1}, {Version: 3, Bias: of(-100000, 50000)}},
	}
}

// draw hands out numbers that look arbitrary, the same ones in each run.
type draw uint64

func (d *draw) next() int64 {
	*d = *d*6364136223846793005 + 1442695040888963407
	return int64(*d ^ *d>>29)
}

// upTo returns a number from -n to n.
func (d *draw) upTo(n int64) int64 { return d.next() % (n + 1) }

// below returns a number from 0 to n - 1.
func (d *draw) below(n int64) int64 { return int64(uint64(d.next()) % uint64(n)) }

// in returns a number of s.
func (d *draw) in(s api.Span) int64 { return s.Lo + d.below(s.Hi-s.Lo+1) }

// span returns a span of at most wide numbers more than one, of numbers from -n to n.
func (d *draw) span(n, wide int64) api.Span {
	lo := d.upTo(n)
	return of(lo, min(n, lo+d.below(wide+1)))
}

// area returns an area with numbers from -n to n.
func (d *draw) area(n, wide int64) api.Area { return api.Area{X: d.span(n, wide), Y: d.span(n, wide)} }

// placeIn returns a place of a.
func (d *draw) placeIn(a api.Area) api.Vec { return at(d.in(a.X), d.in(a.Y)) }

// heading returns a direction.
func (d *draw) heading() api.Vec {
	for {
		if v := at(d.upTo(30), d.upTo(30)); v != (api.Vec{}) {
			return v
		}
	}
}

// offer returns a valid offer in a sky of busy's stations and catalogs.
func (d *draw) offer(tick int64) api.Offer {
	o := api.Offer{
		Kind: int(1 + d.below(2)), Station: []int{1, 4}[d.below(2)], Catalog: []int{1, 3}[d.below(2)], Tick: tick,
		Dir: d.heading(), Far: 1 + d.below(700), Cost: int(d.below(5)), Sure: d.below(3) == 0,
	}
	o.Wide = min(million, d.below(1<<(10+d.below(12))))
	o.Err = d.below(1 << d.below(19))
	if o.Kind == api.SightRange {
		o.Err = d.below(20)
	}
	return o
}

// toward turns an offer so that it looks about at a place.
func (d *draw) toward(s api.Sky, o api.Offer, p api.Vec) api.Offer {
	from, _ := sky.Where(s, o.Station, o.Tick)
	if v := at(p.X-from.X, p.Y-from.Y); v != (api.Vec{}) && max(v.X, v.Y) <= 4096 && min(v.X, v.Y) >= -4096 {
		o.Dir = v
	}
	return o
}

// scene is a watch with the cells of a long box, or some smaller ones.
type scene struct {
	s      api.Sky
	d      api.Drift
	tick   int64
	set    []api.Box
	offers []api.Offer
}

// scene returns a watch with up to n cells and up to m offers, none of which is beyond the limits.
func (d *draw) scene(n, m int64) scene {
	for {
		c := d.anyScene(n, m)
		if watch.Check(c.s, c.d, c.tick, c.set, c.offers) == api.OK {
			return c
		}
	}
}

func (d *draw) anyScene(n, m int64) scene {
	c := scene{s: busy(), tick: d.below(9)}
	if d.below(2) == 0 {
		c.d = api.Drift{Light: of(0, d.below(50)), Heat: of(-d.below(9), d.below(9)), Gas: d.below(2)}
	}
	x, y := 100+d.upTo(200), d.upTo(200)
	box := api.Box{X: of(x, x+d.below(400)), Y: of(y, y+d.below(9)), U: d.span(3, 0), V: d.span(3, 1)}
	c.set, _ = orbit.Cells(box, int(1+d.below(n)))
	if d.below(2) == 0 {
		c.set = nil
		for range d.below(n + 1) {
			box.X, box.Y = d.span(400, 9), d.span(200, 9)
			c.set = append(c.set, box)
		}
	}
	for range d.below(m + 1) {
		o := d.offer(c.tick + d.below(5))
		if d.below(3) > 0 {
			o = d.toward(c.s, o, d.placeIn(areaOf(box)))
		}
		c.offers = append(c.offers, o)
	}
	return c
}

// choice returns some of the numbers below n, ascending.
func (d *draw) choice(n int) []int {
	var l []int
	for i := range n {
		if d.below(2) == 0 {
			l = append(l, i)
		}
	}
	return l
}

// turnOf is c and d of a place, as layer 2 has them.
func turnOf(s api.Sky, o api.Offer, p api.Vec) (c, d int64) {
	from, _ := sky.Where(s, o.Station, o.Tick)
	x, y := p.X-from.X, p.Y-from.Y
	return o.Dir.X*y - o.Dir.Y*x, o.Dir.X*x + o.Dir.Y*y
}

// squareOf is the squared distance of a place from the station.
func squareOf(s api.Sky, o api.Offer, p api.Vec) int64 {
	from, _ := sky.Where(s, o.Station, o.Tick)
	return (p.X-from.X)*(p.X-from.X) + (p.Y-from.Y)*(p.Y-from.Y)
}

// isIn is whether a place is in the field, as the chapter writes it.
func isIn(s api.Sky, o api.Offer, p api.Vec) bool {
	if squareOf(s, o, p) > o.Far*o.Far {
		return false
	}
	if o.Kind == api.SightRange {
		return true
	}
	c, d := turnOf(s, o, p)
	return d > 0 && -o.Wide*d <= million*c && million*c <= o.Wide*d
}

// biasOf is the bias of the catalog of an offer.
func biasOf(s api.Sky, o api.Offer) api.Span {
	for _, c := range s.Catalogs {
		if c.Version == o.Catalog {
			return c.Bias
		}
	}
	return api.Span{}
}

// agrees is whether a place agrees with a reading, as the chapter writes it.
func agrees(s api.Sky, o api.Offer, r api.Reading, p api.Vec) bool {
	if r.Is != api.ReadValue {
		return r.Is == api.ReadFailed || r.Is == api.ReadNothing && !isIn(s, o, p)
	}
	if !isIn(s, o, p) {
		return false
	}
	m := r.Value
	if o.Kind == api.SightRange {
		n := squareOf(s, o, p)
		return (m < o.Err || (m-o.Err)*(m-o.Err) <= n) && m+o.Err >= 0 && n <= (m+o.Err)*(m+o.Err)
	}
	c, d := turnOf(s, o, p)
	bias := biasOf(s, o)
	return million*c-m*d >= (bias.Lo-o.Err)*d && million*c-m*d <= (bias.Hi+o.Err)*d
}

// floor is a / b, rounded down, for a b above 0.
func floor(a, b int64) int64 {
	n := a / b
	for n*b > a {
		n--
	}
	return n
}

// root is the root of a number, rounded down.
func root(n int64) int64 {
	r := int64(0)
	for step := int64(1 << 27); step > 0; step /= 2 {
		if (r+step)*(r+step) <= n {
			r += step
		}
	}
	return r
}

// rootUp is the root of a number, rounded up.
func rootUp(n int64) int64 {
	r := root(n)
	if r*r < n {
		r++
	}
	return r
}

// cornersOf are the four corners of an area.
func cornersOf(a api.Area) []api.Vec {
	return []api.Vec{at(a.X.Lo, a.Y.Lo), at(a.X.Lo, a.Y.Hi), at(a.X.Hi, a.Y.Lo), at(a.X.Hi, a.Y.Hi)}
}

// every is whether something holds for all places of a list.
func every(l []api.Vec, holds func(api.Vec) bool) bool {
	return !slices.ContainsFunc(l, func(p api.Vec) bool { return !holds(p) })
}

// nearestOf is the place of an area that is nearest to the station.
func nearestOf(s api.Sky, o api.Offer, a api.Area) api.Vec {
	from, _ := sky.Where(s, o.Station, o.Tick)
	return at(min(max(from.X, a.X.Lo), a.X.Hi), min(max(from.Y, a.Y.Lo), a.Y.Hi))
}

// viewOf is the view of an area, as the chapter writes it.
func viewOf(s api.Sky, o api.Offer, a api.Area) api.View {
	l := cornersOf(a)
	near := squareOf(s, o, nearestOf(s, o, a))
	if near > o.Far*o.Far {
		return api.View{}
	}
	v := api.View{May: true, Sure: every(l, func(p api.Vec) bool { return isIn(s, o, p) })}
	if o.Kind == api.SightRange {
		far := int64(0)
		for _, p := range l {
			far = max(far, squareOf(s, o, p))
		}
		v.Values = of(root(near)-o.Err, rootUp(far)+o.Err)
		return v
	}
	isBehind := func(p api.Vec) bool { _, d := turnOf(s, o, p); return d <= 0 }
	isRight := func(p api.Vec) bool { c, d := turnOf(s, o, p); return million*c < -o.Wide*d }
	isLeft := func(p api.Vec) bool { c, d := turnOf(s, o, p); return million*c > o.Wide*d }
	if every(l, isBehind) || every(l, isRight) || every(l, isLeft) {
		return api.View{}
	}
	v.Values = of(-slope, slope)
	if !slices.ContainsFunc(l, isBehind) {
		bias := biasOf(s, o)
		lo, hi := most, least
		for _, p := range l {
			c, d := turnOf(s, o, p)
			lo, hi = min(lo, floor(million*c, d)), max(hi, -floor(-million*c, d))
		}
		v.Values = of(min(slope, max(-slope, lo-bias.Hi-o.Err)), min(slope, max(-slope, hi-bias.Lo+o.Err)))
	}
	return v
}

// areApart is whether two areas are told apart, as the chapter writes it.
func areApart(s api.Sky, o api.Offer, a, b api.Area) bool {
	v, w := viewOf(s, o, a), viewOf(s, o, b)
	if v.May && w.May && v.Values.Lo <= w.Values.Hi && w.Values.Lo <= v.Values.Hi {
		return false
	}
	return v.Sure || w.Sure
}

// areasOf are the areas of the cells for an offer.
func (c scene) areasOf(o api.Offer) []api.Area {
	var l []api.Area
	set, _ := orbit.Propagate(c.s.World, c.d, c.tick, c.set, int(o.Tick-c.tick))
	for _, b := range set {
		l = append(l, areaOf(b))
	}
	return l
}

// leaves is how many cells can be mixed up with one of them, at most, by offers that all work.
func (c scene) leaves(working []int) int {
	var areas [][]api.Area
	for _, k := range working {
		areas = append(areas, c.areasOf(c.offers[k]))
	}
	greatest := 0
	for i := range c.set {
		n := 0
		for j := range c.set {
			mixed := true
			for n, k := range working {
				mixed = mixed && !areApart(c.s, c.offers[k], areas[n][i], areas[n][j])
			}
			if mixed {
				n++
			}
		}
		greatest = max(greatest, n)
	}
	return greatest
}

// worstOf is what a choice proves at the worst, as the chapter writes it: each offer that is not Sure fails, or does not.
func (c scene) worstOf(working, rest []int, fails int) int {
	if len(rest) == 0 {
		return c.leaves(working)
	}
	worst := c.worstOf(append(slices.Clone(working), rest[0]), rest[1:], fails)
	if fails > 0 && !c.offers[rest[0]].Sure {
		worst = max(worst, c.worstOf(working, rest[1:], fails-1))
	}
	return worst
}

// darkOf is whether an offer is dark, as the chapter writes it.
func darkOf(s api.Sky, o api.Offer, m api.Moon) bool {
	if o.Kind == api.SightRange {
		return true
	}
	c, d := turnOf(s, o, sky.At(s.World, m.Body, o.Tick))
	return !(d > 0 && -m.Glare*d <= million*c && million*c <= m.Glare*d)
}

// costOf is what offers cost together.
func (c scene) costOf(l []int) int {
	n := 0
	for _, i := range l {
		n += c.offers[i].Cost
	}
	return n
}

// lists are all ascending lists of numbers from first to n - 1, after a beginning, in lexicographic order.
func lists(begin []int, first, n int) [][]int {
	l := [][]int{begin}
	for i := first; i < n; i++ {
		l = append(l, lists(append(slices.Clone(begin), i), i+1, n)...)
	}
	return l
}

// bestOf is the best choice, and how many cells it leaves, as the chapter writes it.
func (c scene) bestOf(m api.Moon, budget, fails int) ([]int, int) {
	var best []int
	fewest := -1
	for _, l := range lists(nil, 0, len(c.offers)) {
		isDark := !slices.ContainsFunc(l, func(i int) bool { return !darkOf(c.s, c.offers[i], m) })
		if !isDark || c.costOf(l) > budget {
			continue
		}
		if n := c.worstOf(nil, l, fails); fewest < 0 || n < fewest || n == fewest && c.costOf(l) < c.costOf(best) {
			best, fewest = l, n
		}
	}
	return best, fewest
}

func (c scene) worst(chosen []int, fails int) (int, api.Errno) {
	return watch.Worst(c.s, c.d, c.tick, c.set, c.offers, chosen, fails)
}

func (c scene) left(chosen []int, readings []api.Reading) ([]int, api.Errno) {
	return watch.Left(c.s, c.d, c.tick, c.set, c.offers, chosen, readings)
}

func (c scene) best(m api.Moon, budget, fails int) ([]int, int, api.Errno) {
	return watch.Best(c.s, c.d, c.tick, c.set, c.offers, m, budget, fails)
}
