package sky_test

import (
	"testing"

	"bolide/api"
	"bolide/sky"
)

// sightWith returns a sight, changed.
func sightWith(x api.Sight, change func(x *api.Sight)) api.Sight {
	change(&x)
	return x
}

func TestP2_2CheckSight(t *testing.T) {
	type change = func(x *api.Sight)
	var (
		angle  = upwards()
		ranged = distance(0, 90, 100)
		empty  = nothing()
	)
	for name, c := range map[string]struct {
		x      api.Sight
		change change
		e      api.Errno
	}{
		"angle":           {angle, func(x *api.Sight) {}, api.OK},
		"range":           {ranged, func(x *api.Sight) {}, api.OK},
		"empty":           {empty, func(x *api.Sight) {}, api.OK},
		"kind 0":          {angle, func(x *api.Sight) { x.Kind = 0 }, api.ErrKind},
		"kind 4":          {angle, func(x *api.Sight) { x.Kind = 4 }, api.ErrKind},
		"kind first":      {angle, func(x *api.Sight) { *x = api.Sight{Kind: -1, Tick: -1} }, api.ErrKind},
		"last tick":       {angle, func(x *api.Sight) { x.Tick = 1 << 30 }, api.OK},
		"tick more":       {angle, func(x *api.Sight) { x.Tick = 1<<30 + 1 }, api.ErrRange},
		"tick less":       {ranged, func(x *api.Sight) { x.Tick = -1 }, api.ErrRange},
		"tick first":      {ranged, func(x *api.Sight) { x.Tick, x.Station = -1, 8 }, api.ErrRange},
		"station":         {ranged, func(x *api.Sight) { x.Station = 8 }, api.ErrMissing},
		"station first":   {angle, func(x *api.Sight) { x.Station, x.Err = 8, -1 }, api.ErrMissing},
		"catalog":         {angle, func(x *api.Sight) { x.Catalog = 3 }, api.ErrMissing},
		"empty's catalog": {empty, func(x *api.Sight) { x.Catalog = 0 }, api.ErrMissing},
		"range's catalog": {ranged, func(x *api.Sight) { x.Catalog, x.Dir, x.Err = 77, at(most, least), most }, api.OK},
		"angle's range":   {angle, func(x *api.Sight) { x.Lo, x.Hi = most, least }, api.OK},
		"empty's Lo":      {empty, func(x *api.Sight) { x.Lo = least }, api.OK},
		"catalog first":   {angle, func(x *api.Sight) { x.Catalog, x.Dir = 3, at(0, 0) }, api.ErrMissing},
		"dir":             {angle, func(x *api.Sight) { x.Dir = at(4096, -4096) }, api.OK},
		"dir X":           {angle, func(x *api.Sight) { x.Dir = at(4097, 0) }, api.ErrRange},
		"dir Y":           {empty, func(x *api.Sight) { x.Dir = at(1, -4097) }, api.ErrRange},
		"dir least":       {angle, func(x *api.Sight) { x.Dir = at(least, 0) }, api.ErrRange},
		"dir 0":           {angle, func(x *api.Sight) { x.Dir = at(0, 0) }, api.ErrRange},
		"dir of one axis": {angle, func(x *api.Sight) { x.Dir = at(-1, 0) }, api.OK},
		"err 0":           {angle, func(x *api.Sight) { x.Err = 0 }, api.OK},
		"err":             {angle, func(x *api.Sight) { x.Err = 500000 }, api.OK},
		"err more":        {angle, func(x *api.Sight) { x.Err = 500001 }, api.ErrRange},
		"err less":        {empty, func(x *api.Sight) { x.Err = -1 }, api.ErrRange},
		"range of 0":      {ranged, func(x *api.Sight) { x.Lo, x.Hi = 0, 0 }, api.OK},
		"range of all":    {ranged, func(x *api.Sight) { x.Lo, x.Hi = 1<<27, 1<<27 }, api.OK},
		"range more":      {ranged, func(x *api.Sight) { x.Hi = 1<<27 + 1 }, api.ErrRange},
		"range less":      {ranged, func(x *api.Sight) { x.Lo = -1 }, api.ErrRange},
		"range descends":  {ranged, func(x *api.Sight) { x.Lo = 101 }, api.ErrRange},
		"empty at 1":      {empty, func(x *api.Sight) { x.Hi = 1 }, api.OK},
		"empty at 0":      {empty, func(x *api.Sight) { x.Hi = 0 }, api.ErrRange},
		"empty at all":    {empty, func(x *api.Sight) { x.Hi = 1 << 27 }, api.OK},
		"empty more":      {empty, func(x *api.Sight) { x.Hi = 1<<27 + 1 }, api.ErrRange},
	} {
		x := sightWith(c.x, c.change)
		if e := sky.CheckSight(heaven(), x); e != c.e {
			t.Error(name, e)
		}
		for _, p := range []api.Vec{at(1000, 110), at(1000, -400), at(3, 3)} { // one of them agrees, or it is not valid
			if c.e != api.OK && (sky.Agrees(heaven(), x, p) || sky.Excludes(heaven(), x, area(p.X, p.X, p.Y, p.Y))) {
				t.Error(name, p)
			}
		}
	}
	bad := skyWith(func(s *api.Sky) { s.Stations[0].Off.X = most })
	if e := sky.CheckSight(bad, api.Sight{}); e != api.ErrRange {
		t.Error("the sky comes first", e)
	}
	if sky.Agrees(bad, upwards(), at(1000, 110)) || sky.Excludes(bad, upwards(), area(0, 0, 0, 0)) {
		t.Error("a sky that is not valid")
	}
}

func TestP2_2Examples(t *testing.T) {
	biased := sightWith(upwards(), func(x *api.Sight) { x.Catalog = 2 })
	for _, c := range []struct {
		x    api.Sight
		p    api.Vec
		want bool
	}{
		{upwards(), at(1000, 110), true}, {upwards(), at(1010, 110), true}, {upwards(), at(990, 110), true}, {upwards(), at(1011, 110), false}, {upwards(), at(1000, -90), false},
		{biased, at(1000, 110), true}, {biased, at(990, 110), true}, {biased, at(970, 110), true}, {biased, at(969, 110), false},
		{distance(0, 90, 100), at(1000, 110), true}, {distance(0, 90, 100), at(1000, 99), false},
		{nothing(), at(1000, 110), false}, {nothing(), at(1000, 111), true}, {nothing(), at(1020, 50), true},
	} {
		if ok := sky.Agrees(heaven(), c.x, c.p); ok != c.want {
			t.Error("Agrees", c.x, c.p, ok)
		}
	}
	for _, c := range []struct {
		x    api.Sight
		a    api.Area
		want bool
	}{
		{upwards(), area(1020, 1030, 20, 110), true}, {upwards(), area(1005, 1030, 20, 110), false},
		{distance(0, 90, 100), area(990, 1010, 0, 20), true}, {nothing(), area(999, 1001, 50, 100), true},
	} {
		if ok := sky.Excludes(heaven(), c.x, c.a); ok != c.want {
			t.Error("Excludes", c.x, c.a, ok)
		}
	}
}

func TestP2_2Edges(t *testing.T) {
	type row struct {
		x api.Sight
		p api.Vec
	}
	late := sightWith(upwards(), func(x *api.Sight) { x.Tick = 3 })
	for _, c := range []row{
		{late, at(0, 1110)}, {sightWith(late, func(x *api.Sight) { x.Dir = at(0, -4096) }), at(0, 0)},
		{distance(0, 90, 100), at(1000, 100)}, {distance(0, 90, 100), at(1060, 90)}, {distance(0, 0, 0), at(1000, 10)},
		{distance(0, 0, 1<<27), at(-place, -place)}, {nothing(), at(1000, 10)}, // the station itself is in no cone
		{sightWith(upwards(), func(x *api.Sight) { x.Dir, x.Err = at(-4096, -4096), 500000 }), at(-place, -place)},
		{sightWith(upwards(), func(x *api.Sight) { x.Dir, x.Err, x.Catalog = at(1, 0), 0, 2 }), at(1010, 11)},
	} {
		if !sky.Agrees(heaven(), c.x, c.p) || sky.Excludes(heaven(), c.x, area(c.p.X, c.p.X, c.p.Y, c.p.Y)) {
			t.Error("does not agree", c)
		}
	}
	for _, c := range []row{
		{late, at(1000, 110)}, {upwards(), at(1000, 10)}, {upwards(), at(1001, 10)}, {distance(0, 90, 100), at(1000, 111)}, {distance(0, 1, 1), at(1000, 10)}, {nothing(), at(1000, 11)},
		{sightWith(upwards(), func(x *api.Sight) { x.Dir, x.Err, x.Catalog = at(1, 0), 0, 2 }), at(1010, 10)}, // all of the bias is to one side
		{sightWith(upwards(), func(x *api.Sight) { x.Dir, x.Err, x.Catalog = at(1, 0), 0, 2 }), at(1010, 13)},
		{sightWith(upwards(), func(x *api.Sight) { x.Dir, x.Err = at(4096, 4096), 500000 }), at(-place, -place)},
	} {
		if sky.Agrees(heaven(), c.x, c.p) || !sky.Excludes(heaven(), c.x, area(c.p.X, c.p.X, c.p.Y, c.p.Y)) {
			t.Error("agrees", c)
		}
	}
}

// TestP2_2Beyond has places and areas beyond the limits: no place there agrees, and no such area is excluded.
func TestP2_2Beyond(t *testing.T) {
	s := still()
	wide := api.Sight{Kind: api.SightRange, Station: 1, Hi: 1 << 27}
	look := api.Sight{Kind: api.SightEmpty, Station: 1, Catalog: 1, Dir: at(1, 0), Hi: 5}
	for _, p := range []api.Vec{at(place+1, 0), at(-place-1, 0), at(0, place+1), at(0, -place-1), at(least, least), at(1<<32, 1<<32)} {
		if sky.Agrees(s, wide, p) || sky.Agrees(s, look, p) {
			t.Error(p)
		}
	}
	for _, p := range []api.Vec{at(place, 0), at(-place, 0), at(0, place), at(0, -place)} {
		if !sky.Agrees(s, wide, p) || !sky.Agrees(s, look, p) {
			t.Error(p)
		}
	}
	none := api.Sight{Kind: api.SightRange, Station: 1, Lo: 1 << 27, Hi: 1 << 27}
	for _, a := range []api.Area{area(place, place+1, 0, 0), area(-place-1, 0, 0, 0), area(0, 0, place, place+1), area(0, 0, -place-1, 0), area(1, 0, 0, 0), area(0, 0, 1, 0), area(least, most, least, most)} {
		if sky.Excludes(s, none, a) {
			t.Error(a)
		}
	}
	if !sky.Excludes(s, none, area(-place, place, -place, place)) {
		t.Error("the whole plane is nearer than that")
	}
}

// TestP2_2Exact holds Agrees and Excludes against what the document writes, computed anew.
func TestP2_2Exact(t *testing.T) {
	d := draw(2)
	s := still()
	count := map[bool]int{}
	for range 60000 {
		x := d.sight(12)
		p := at(d.upTo(16), d.upTo(16))
		a := api.Area{X: d.span(9), Y: d.span(9)}
		if d.below(2) == 0 {
			a = api.Area{X: of(p.X, p.X+d.below(3)), Y: of(p.Y, p.Y+d.below(3))}
		}
		if sky.Agrees(s, x, p) != isSeen(x, p) {
			t.Fatal("Agrees", x, p)
		}
		excluded := sky.Excludes(s, x, a)
		if excluded != isExcluded(x, a) {
			t.Fatal("Excludes", x, a, excluded)
		}
		count[excluded]++
	}
	if count[true] < 5000 || count[false] < 5000 {
		t.Error("too few cases", count)
	}
}

func TestP2_7Exclusion(t *testing.T) {
	d := draw(7)
	s := still()
	for range 20000 {
		x := d.sight(12)
		a := api.Area{X: d.span(6), Y: d.span(6)}
		excluded := sky.Excludes(s, x, a)
		if excluded && !sky.Excludes(s, x, d.lesser(a)) {
			t.Fatal("an area in it", x, a)
		}
		for _, p := range placesOf(d.lesser(a)) {
			agrees := sky.Agrees(s, x, p)
			if excluded && agrees {
				t.Fatal("a place in it", x, a, p)
			}
			if sky.Excludes(s, x, area(p.X, p.X, p.Y, p.Y)) == agrees {
				t.Fatal("one place", x, p)
			}
		}
	}
}

// wider returns a sky and a sight with a greater error, a wider bias, and a wider range.
func wider(d *draw, s api.Sky, x api.Sight) (api.Sky, api.Sight) {
	s.Catalogs = append([]api.Catalog(nil), s.Catalogs...)
	for i := range s.Catalogs {
		b := &s.Catalogs[i].Bias
		*b = of(max(b.Lo-d.below(100000), -api.MaxErr), min(b.Hi+d.below(100000), api.MaxErr))
	}
	x.Err = min(x.Err+d.below(100000), api.MaxErr)
	x.Lo, x.Hi = d.below(x.Lo+1), x.Hi+d.below(4)
	return s, x
}

func TestP2_8Wider(t *testing.T) {
	d := draw(8)
	changed := map[int]int{}
	for range 60000 {
		s, x := still(), d.sight(12)
		greater, y := wider(&d, s, x)
		p := at(d.upTo(16), d.upTo(16))
		a := api.Area{X: of(p.X, p.X+d.below(3)), Y: of(p.Y, p.Y+d.below(3))}
		less, more := sky.Agrees(s, x, p), sky.Agrees(greater, y, p)
		many, few := sky.Excludes(s, x, a), sky.Excludes(greater, y, a)
		if less != more {
			changed[x.Kind]++
		}
		if x.Kind == api.SightEmpty {
			less, more, many, few = more, less, few, many
		}
		if less && !more || few && !many {
			t.Fatal(x, y, p, a)
		}
	}
	for kind := api.SightAngle; kind <= api.SightEmpty; kind++ {
		if changed[kind] < 100 {
			t.Error("too few cases", kind, changed[kind])
		}
	}
}

func TestP2_9AngleOrEmpty(t *testing.T) {
	d := draw(9)
	s := still()
	var both int
	for range 60000 {
		x := d.sight(12)
		angle, empty := x, x
		angle.Kind, empty.Kind = api.SightAngle, api.SightEmpty
		p := at(d.upTo(30), d.upTo(30))
		v := seen(x, p)
		inCone, noSight := sky.Agrees(s, angle, p), sky.Agrees(s, empty, p)
		if !inCone && !noSight {
			t.Fatal("neither", x, p)
		}
		if inCone && noSight {
			both++
		}
		if (inCone && noSight) != (inCone && v.X*v.X+v.Y*v.Y > x.Hi*x.Hi) {
			t.Fatal("both", x, p)
		}
	}
	if both < 100 {
		t.Error("too few cases", both)
	}
}

func TestP2_10Moved(t *testing.T) {
	d := draw(10)
	for range 30000 {
		s, x := still(), d.sight(12)
		p := at(d.upTo(16), d.upTo(16))
		a := api.Area{X: d.span(9), Y: d.span(9)}
		n := place >> d.below(20)
		by := at(d.upTo(n-100), d.upTo(n-100))
		s.World.Bodies[0].Track = []api.Vec{at(0, 0), at(1, 1)} // stations move with Home
		moved := s
		moved.World = api.World{Bodies: []api.Body{{Track: []api.Vec{by, at(by.X+1, by.Y+1)}}}}
		y := x
		factor := 1 + d.below(1000)
		y.Dir = at(x.Dir.X*factor, x.Dir.Y*factor)
		q := at(p.X+by.X, p.Y+by.Y)
		b := area(a.X.Lo+by.X, a.X.Hi+by.X, a.Y.Lo+by.Y, a.Y.Hi+by.Y)
		if sky.Agrees(s, x, p) != sky.Agrees(moved, y, q) || sky.Excludes(s, x, a) != sky.Excludes(moved, y, b) {
			t.Fatal(x, y, p, a, by)
		}
	}
}
