package sky_test

import (
	"math"

	"bolide/api"
)

const (
	place = int64(api.MaxPlace)
	least = int64(math.MinInt64)
	most  = int64(math.MaxInt64)
)

func at(x, y int64) api.Vec { return api.Vec{X: x, Y: y} }

func of(lo, hi int64) api.Span { return api.Span{Lo: lo, Hi: hi} }

func area(xlo, xhi, ylo, yhi int64) api.Area { return api.Area{X: of(xlo, xhi), Y: of(ylo, yhi)} }

func state(x, y, u, v int64) api.State { return api.State{X: x, Y: y, U: u, V: v} }

// world is the world of the chapter's examples.
func world() api.World {
	return api.World{Bodies: []api.Body{{Track: []api.Vec{at(0, 0)}}, {Track: []api.Vec{at(1000, 0), at(0, 1000)}}}, Home: 1}
}

// heaven is the sky of the chapter's examples.
func heaven() api.Sky {
	return api.Sky{
		World:    world(),
		Stations: []api.Station{{ID: 7, Off: at(0, 10)}},
		Catalogs: []api.Catalog{{Version: 1}, {Version: 2, Bias: of(100000, 200000)}},
	}
}

// upwards is the angle of the chapter's examples.
func upwards() api.Sight {
	return api.Sight{Kind: api.SightAngle, Station: 7, Catalog: 1, Dir: at(0, 1), Err: 100000}
}

// distance is a range from the station of the chapter's examples.
func distance(tick, lo, hi int64) api.Sight {
	return api.Sight{Kind: api.SightRange, Station: 7, Tick: tick, Lo: lo, Hi: hi}
}

// nothing is the empty look of the chapter's examples.
func nothing() api.Sight {
	x := upwards()
	x.Kind, x.Hi = api.SightEmpty, 100
	return x
}

// still is a sky in which Home does not move, with the station 1 at (0, 0), the station 2 at (3, -2), and catalogs without and with a bias.
func still() api.Sky {
	return api.Sky{
		World:    api.World{Bodies: []api.Body{{Track: []api.Vec{at(0, 0)}}}},
		Stations: []api.Station{{ID: 1}, {ID: 2, Off: at(3, -2)}},
		Catalogs: []api.Catalog{{Version: 1}, {Version: 2, Bias: of(-300000, -100000)}, {Version: 9, Bias: of(-500000, 500000)}},
	}
}

// draw hands out numbers that look arbitrary, the same ones in each run.
type draw uint64

func (d *draw) next() int64 {
	*d = *d*6364136223846793005 + 1442695040888963407
	return int64(*d ^ *d>>29)
}

// upTo returns a number from -n to n.
func (d *draw) upTo(n int64) int64 { return d.next() % (n + 1) }

// below returns a number from 0 to n - 1.
func (d *draw) below(n int64) int64 { return int64(uint64(d.next()) % uint64(n)) }

// span returns a span of numbers from -n to n.
func (d *draw) span(n int64) api.Span {
	a, b := d.upTo(n), d.upTo(n)
	return of(min(a, b), max(a, b))
}

// sight returns a valid sight in the sky still, for places up to about n.
func (d *draw) sight(n int64) api.Sight {
	x := api.Sight{Kind: int(1 + d.below(3)), Station: int(1 + d.below(2)), Catalog: []int{1, 2, 9}[d.below(3)], Tick: d.below(9), Err: d.below(api.MaxErr + 1)}
	if d.below(2) == 0 {
		x.Err = d.below(4) * 100000
	}
	for x.Dir == (api.Vec{}) {
		x.Dir = at(d.upTo(4), d.upTo(4))
	}
	x.Lo = d.below(2*n + 1)
	x.Hi = max(1, x.Lo+d.below(n+1))
	return x
}

// lesser returns an area inside of a.
func (d *draw) lesser(a api.Area) api.Area {
	part := func(s api.Span) api.Span {
		k, l := s.Lo+d.below(s.Hi-s.Lo+1), s.Lo+d.below(s.Hi-s.Lo+1)
		return of(min(k, l), max(k, l))
	}
	return api.Area{X: part(a.X), Y: part(a.Y)}
}

// placesOf returns all places of a small area.
func placesOf(a api.Area) []api.Vec {
	var l []api.Vec
	for x := a.X.Lo; x <= a.X.Hi; x++ {
		for y := a.Y.Lo; y <= a.Y.Hi; y++ {
			l = append(l, at(x, y))
		}
	}
	return l
}

// seen returns a place as seen from the station of a sight in the sky still.
func seen(x api.Sight, p api.Vec) api.Vec {
	if x.Station == 2 {
		return at(p.X-3, p.Y+2)
	}
	return p
}

// cone returns c and d of a place and a sight in the sky still, and the least and the greatest turn that its cone has.
func cone(x api.Sight, p api.Vec) (c, d, lo, hi int64) {
	v := seen(x, p)
	bias := map[int]api.Span{1: {}, 2: of(-300000, -100000), 9: of(-500000, 500000)}[x.Catalog]
	return x.Dir.X*v.Y - x.Dir.Y*v.X, x.Dir.X*v.X + x.Dir.Y*v.Y, bias.Lo - x.Err, bias.Hi + x.Err
}

// isSeen is Agrees in the sky still, as the document writes it.
func isSeen(x api.Sight, p api.Vec) bool {
	v := seen(x, p)
	square := v.X*v.X + v.Y*v.Y
	c, d, lo, hi := cone(x, p)
	inCone := d > 0 && lo*d <= 1000000*c && 1000000*c <= hi*d
	switch x.Kind {
	case api.SightAngle:
		return inCone
	case api.SightRange:
		return x.Lo*x.Lo <= square && square <= x.Hi*x.Hi
	}
	return !inCone || square > x.Hi*x.Hi
}

// isExcluded is Excludes in the sky still, as the document writes it.
func isExcluded(x api.Sight, a api.Area) bool {
	behind, right, left, near, blocked := true, true, true, true, true
	for _, px := range []int64{a.X.Lo, a.X.Hi} {
		for _, py := range []int64{a.Y.Lo, a.Y.Hi} {
			v := seen(x, at(px, py))
			square := v.X*v.X + v.Y*v.Y
			c, d, lo, hi := cone(x, at(px, py))
			behind = behind && d <= 0
			right = right && 1000000*c < lo*d
			left = left && 1000000*c > hi*d
			near = near && square < x.Lo*x.Lo
			blocked = blocked && d > 0 && 1000000*c >= lo*d && 1000000*c <= hi*d && square <= x.Hi*x.Hi
		}
	}
	switch x.Kind {
	case api.SightAngle:
		return behind || right || left
	case api.SightRange:
		return near || !reaches(x, a)
	}
	return blocked
}

// reaches reports whether some place of a small area is within the Hi of a range.
func reaches(x api.Sight, a api.Area) bool {
	for _, p := range placesOf(a) {
		if v := seen(x, p); v.X*v.X+v.Y*v.Y <= x.Hi*x.Hi {
			return true
		}
	}
	return false
}
