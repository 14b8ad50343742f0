package watch_test

import (
	"testing"

	"bolide/api"
	"bolide/watch"
)

// badSky is a sky that is not valid, because of a catalog.
func badSky() api.Sky {
	s := heaven()
	s.Catalogs = []api.Catalog{{Version: 0}}
	return s
}

func TestP6_1CheckOffer(t *testing.T) {
	type offer = api.Offer
	for name, c := range map[string]struct {
		s api.Sky
		o offer
		e api.Errno
	}{
		"R": {heaven(), radar(), api.OK}, "T": {heaven(), telescope(), api.OK},
		"no world":        {api.Sky{}, offer{}, api.ErrShort},
		"sky first":       {badSky(), offer{}, api.ErrOrder},
		"no kind":         {heaven(), with(radar(), func(o *offer) { o.Kind, o.Tick = 0, -1 }), api.ErrKind},
		"empty look":      {heaven(), with(radar(), func(o *offer) { o.Kind, o.Tick = api.SightEmpty, -1 }), api.ErrKind},
		"kind below 0":    {heaven(), with(radar(), func(o *offer) { o.Kind = -1 }), api.ErrKind},
		"tick":            {heaven(), with(radar(), func(o *offer) { o.Tick, o.Station = -1, 2 }), api.ErrRange},
		"late":            {heaven(), with(telescope(), func(o *offer) { o.Tick, o.Station = end+1, 2 }), api.ErrRange},
		"latest":          {heaven(), with(telescope(), func(o *offer) { o.Tick = end }), api.OK},
		"station":         {heaven(), with(radar(), func(o *offer) { o.Station, o.Err = 2, -1 }), api.ErrMissing},
		"station 0":       {heaven(), with(telescope(), func(o *offer) { o.Station, o.Err = 0, -1 }), api.ErrMissing},
		"err":             {heaven(), with(telescope(), func(o *offer) { o.Err, o.Catalog = -1, 2 }), api.ErrRange},
		"great err":       {heaven(), with(radar(), func(o *offer) { o.Err = 500001 }), api.ErrRange},
		"greatest err":    {heaven(), with(radar(), func(o *offer) { o.Err = 500000 }), api.OK},
		"err of angle":    {heaven(), with(telescope(), func(o *offer) { o.Err = 500000 }), api.OK},
		"great angle":     {heaven(), with(telescope(), func(o *offer) { o.Err = 500001 }), api.ErrRange},
		"no err":          {heaven(), with(telescope(), func(o *offer) { o.Err = 0 }), api.OK},
		"far":             {heaven(), with(telescope(), func(o *offer) { o.Far, o.Catalog = 0, 2 }), api.ErrRange},
		"too far":         {heaven(), with(radar(), func(o *offer) { o.Far = 1<<27 + 1 }), api.ErrRange},
		"farthest":        {heaven(), with(radar(), func(o *offer) { o.Far = 1 << 27 }), api.OK},
		"nearest":         {heaven(), with(radar(), func(o *offer) { o.Far = 1 }), api.OK},
		"cost":            {heaven(), with(telescope(), func(o *offer) { o.Cost, o.Catalog = -1, 2 }), api.ErrRange},
		"dear":            {heaven(), with(radar(), func(o *offer) { o.Cost = 1001 }), api.ErrRange},
		"dearest":         {heaven(), with(radar(), func(o *offer) { o.Cost = 1000 }), api.OK},
		"for nothing":     {heaven(), with(radar(), func(o *offer) { o.Cost = 0 }), api.OK},
		"catalog":         {heaven(), with(telescope(), func(o *offer) { o.Catalog, o.Dir = 2, at(0, 0) }), api.ErrMissing},
		"dir":             {heaven(), with(telescope(), func(o *offer) { o.Dir = at(0, 0) }), api.ErrRange},
		"long dir":        {heaven(), with(telescope(), func(o *offer) { o.Dir = at(4097, 0) }), api.ErrRange},
		"long dir down":   {heaven(), with(telescope(), func(o *offer) { o.Dir = at(0, -4097) }), api.ErrRange},
		"long dir left":   {heaven(), with(telescope(), func(o *offer) { o.Dir = at(-4097, 1) }), api.ErrRange},
		"long dir up":     {heaven(), with(telescope(), func(o *offer) { o.Dir = at(1, 4097) }), api.ErrRange},
		"longest dir":     {heaven(), with(telescope(), func(o *offer) { o.Dir = at(-4096, 4096) }), api.OK},
		"other ends":      {heaven(), with(telescope(), func(o *offer) { o.Dir = at(4096, -4096) }), api.OK},
		"up":              {heaven(), with(telescope(), func(o *offer) { o.Dir = at(0, 1) }), api.OK},
		"wide":            {heaven(), with(telescope(), func(o *offer) { o.Wide = -1 }), api.ErrRange},
		"too wide":        {heaven(), with(telescope(), func(o *offer) { o.Wide = million + 1 }), api.ErrRange},
		"widest":          {heaven(), with(telescope(), func(o *offer) { o.Wide = million }), api.OK},
		"narrowest":       {heaven(), with(telescope(), func(o *offer) { o.Wide = 0 }), api.OK},
		"does not matter": {heaven(), with(radar(), func(o *offer) { o.Catalog, o.Dir, o.Wide = 2, at(5000, 0), -1 }), api.OK},
	} {
		if e := watch.CheckOffer(c.s, c.o); e != c.e {
			t.Error(name, e)
		}
	}
}

func TestP6_1Field(t *testing.T) {
	type offer = api.Offer
	moved := busy()
	up := with(telescope(), func(o *offer) { o.Station, o.Tick, o.Dir = 4, 4, at(0, 2) }) // from (93, 38)
	still := with(telescope(), func(o *offer) { o.Wide = 0 })
	for i, c := range []struct {
		s  api.Sky
		o  offer
		p  api.Vec
		is bool
	}{
		{heaven(), radar(), at(60, 80), true}, {heaven(), radar(), at(61, 80), false}, {heaven(), radar(), at(-60, -80), true}, {heaven(), radar(), at(0, 0), true},
		{heaven(), telescope(), at(100, 50), true}, {heaven(), telescope(), at(100, 51), false}, {heaven(), telescope(), at(100, -50), true}, {heaven(), telescope(), at(100, -51), false},
		{heaven(), telescope(), at(-100, 0), false}, {heaven(), telescope(), at(0, 0), false}, {heaven(), telescope(), at(0, 5), false}, {heaven(), telescope(), at(1000, 0), true}, {heaven(), telescope(), at(1001, 0), false}, {heaven(), telescope(), at(1000, 1), false},
		{heaven(), still, at(7, 0), true}, {heaven(), still, at(7, 1), false}, {heaven(), still, at(-7, 0), false},
		{moved, up, at(93, 138), true}, {moved, up, at(43, 138), true}, {moved, up, at(42, 138), false}, {moved, up, at(143, 138), true}, {moved, up, at(144, 138), false}, {moved, up, at(93, 37), false},
		{badSky(), radar(), at(60, 80), false}, {heaven(), with(radar(), func(o *offer) { o.Tick = -1 }), at(60, 80), false},
	} {
		if is := watch.Field(c.s, c.o, c.p); is != c.is {
			t.Error(i, is)
		}
	}
	far := heaven()
	far.World.Bodies[0].Track[0] = at(place, place)
	wide := with(radar(), func(o *offer) { o.Far = 1 << 27 })
	for _, p := range []api.Vec{at(place+1, place), at(place, place+1), at(-place-1, 0), at(0, -place-1), at(least, most)} {
		if watch.Field(far, wide, p) || watch.Agrees(far, wide, failed(), p) || watch.Agrees(far, wide, nothing(), p) || watch.Agrees(far, wide, value(1), p) {
			t.Error(p)
		}
		if s, ok := watch.Reads(far, wide, p); s != of(0, 0) || ok {
			t.Error(p, s)
		}
	}
	if !watch.Field(far, wide, at(place, place)) || !watch.Field(far, wide, at(-place, -place)) || !watch.Field(far, wide, at(-place, place)) {
		t.Error("limits")
	}
}

func TestP6_1Agrees(t *testing.T) {
	type offer = api.Offer
	s := heaven()
	s.Catalogs = append(s.Catalogs, api.Catalog{Version: 3, Bias: of(-3000, 500)})
	turned := with(telescope(), func(o *offer) { o.Catalog = 3 })
	exact := with(radar(), func(o *offer) { o.Err = 0 })
	sharp := with(telescope(), func(o *offer) { o.Err = 0 })
	for i, c := range []struct {
		o  offer
		r  api.Reading
		p  api.Vec
		is bool
	}{
		{radar(), failed(), at(60, 80), true}, {radar(), failed(), at(600, 80), true}, {radar(), nothing(), at(60, 80), false}, {radar(), nothing(), at(61, 80), true},
		{radar(), value(98), at(60, 80), true}, {radar(), value(102), at(60, 80), true}, {radar(), value(97), at(60, 80), false}, {radar(), value(103), at(60, 80), false}, {radar(), value(101), at(61, 80), false},
		{radar(), value(53), at(33, 44), true}, {radar(), value(57), at(33, 44), true}, {radar(), value(-1), at(1, 0), true}, {radar(), value(-2), at(1, 0), false}, {radar(), value(3), at(1, 0), true},
		{radar(), value(4), at(1, 1), false}, {radar(), value(0), at(1, 1), true}, {radar(), value(-1), at(1, 1), false}, // the root of 2 is between 1 and 2
		{exact, value(1), at(1, 1), false}, {exact, value(2), at(1, 1), false}, {exact, value(5), at(3, 4), true}, {exact, value(-5), at(3, 4), false},
		{telescope(), value(99000), at(100, 10), true}, {telescope(), value(101000), at(100, 10), true}, {telescope(), value(98999), at(100, 10), false}, {telescope(), value(101001), at(100, 10), false}, {telescope(), value(0), at(-5, 0), false}, {telescope(), nothing(), at(-5, 0), true}, {telescope(), failed(), at(-5, 0), true},
		{turned, value(98500), at(100, 10), true}, {turned, value(98499), at(100, 10), false}, {turned, value(104000), at(100, 10), true}, {turned, value(104001), at(100, 10), false},
		{sharp, value(333333), at(3, 1), false}, {sharp, value(333334), at(3, 1), false}, {sharp, value(-333333), at(3, -1), false}, {sharp, value(500000), at(2, 1), true}, {sharp, value(-500000), at(2, -1), true}, {sharp, value(499999), at(2, 1), false},
		{telescope(), value(334333), at(3, 1), true}, {telescope(), value(334334), at(3, 1), false}, {telescope(), value(332334), at(3, 1), true}, {telescope(), value(332333), at(3, 1), false},
		{radar(), value(most), at(60, 80), false}, {radar(), value(least), at(60, 80), false}, {telescope(), value(most), at(100, 10), false}, {telescope(), value(least), at(100, 10), false},
		{radar(), api.Reading{Is: 3, Value: 100}, at(60, 80), false}, {radar(), api.Reading{Is: -1}, at(60, 80), false}, {radar(), api.Reading{Is: 3}, at(600, 80), false},
		{with(radar(), func(o *offer) { o.Station = 2 }), failed(), at(60, 80), false}, {with(telescope(), func(o *offer) { o.Wide = -1 }), nothing(), at(60, 80), false},
	} {
		if is := watch.Agrees(s, c.o, c.r, c.p); is != c.is {
			t.Error(i, is)
		}
	}
	if watch.Agrees(badSky(), radar(), failed(), at(60, 80)) {
		t.Error("a sky that is not valid")
	}
}

func TestP6_1Reads(t *testing.T) {
	type offer = api.Offer
	s := heaven()
	s.Catalogs = append(s.Catalogs, api.Catalog{Version: 3, Bias: of(-3000, 500)}, api.Catalog{Version: 4, Bias: of(-1, 0)})
	sharp := with(telescope(), func(o *offer) { o.Err = 0 })
	for i, c := range []struct {
		o      offer
		p      api.Vec
		values api.Span
		ok     bool
	}{
		{radar(), at(60, 80), of(98, 102), true}, {radar(), at(61, 80), of(0, 0), false}, {radar(), at(0, 0), of(-2, 2), true}, {radar(), at(1, 1), of(0, 3), true},
		{telescope(), at(100, 10), of(99000, 101000), true}, {telescope(), at(-5, 0), of(0, 0), false}, {telescope(), at(3, 1), of(332334, 334333), true}, {telescope(), at(3, -1), of(-334333, -332334), true},
		{with(radar(), func(o *offer) { o.Err = 0 }), at(1, 1), of(0, 0), false}, {with(radar(), func(o *offer) { o.Err = 0 }), at(3, 4), of(5, 5), true}, {with(radar(), func(o *offer) { o.Err = 0 }), at(0, 0), of(0, 0), true},
		{with(radar(), func(o *offer) { o.Err = 1 }), at(1, 1), of(1, 2), true},
		{sharp, at(3, 1), of(0, 0), false}, {sharp, at(2, 1), of(500000, 500000), true}, {with(sharp, func(o *offer) { o.Catalog = 4 }), at(3, 1), of(333334, 333334), true},
		{with(telescope(), func(o *offer) { o.Catalog = 3 }), at(100, 10), of(98500, 104000), true},
		{with(telescope(), func(o *offer) { o.Dir = at(0, -7) }), at(10, -100), of(99000, 101000), true},
		{with(telescope(), func(o *offer) { o.Catalog = 2 }), at(100, 10), of(0, 0), false}, {with(radar(), func(o *offer) { o.Kind = 3 }), at(60, 80), of(0, 0), false},
	} {
		if values, ok := watch.Reads(s, c.o, c.p); values != c.values || ok != c.ok {
			t.Error(i, values, ok)
		}
	}
	if values, ok := watch.Reads(badSky(), radar(), at(60, 80)); values != of(0, 0) || ok {
		t.Error(values, ok)
	}
}

func TestP6_2Dark(t *testing.T) {
	type offer = api.Offer
	s := busy() // Home is at (90, 40) at the tick 1, the moon at (100, 60)
	look := with(telescope(), func(o *offer) { o.Tick, o.Dir = 1, at(0, 1) })
	for name, c := range map[string]struct {
		o  offer
		m  api.Moon
		is bool
	}{
		"beside":       {look, api.Moon{Body: 2, Glare: 499999}, true}, // it is at (10, 20)
		"in the glare": {look, api.Moon{Body: 2, Glare: 500000}, false},
		"to the left":  {with(look, func(o *offer) { o.Dir = at(1, 1) }), api.Moon{Body: 2, Glare: 333334}, false},
		"just left":    {with(look, func(o *offer) { o.Dir = at(1, 1) }), api.Moon{Body: 2, Glare: 333333}, true},
		"to the right": {with(look, func(o *offer) { o.Dir = at(1, 3) }), api.Moon{Body: 2, Glare: 142858}, false},
		"just right":   {with(look, func(o *offer) { o.Dir = at(1, 3) }), api.Moon{Body: 2, Glare: 142857}, true},
		"straight":     {with(look, func(o *offer) { o.Dir = at(1, 2) }), api.Moon{Body: 2}, false},
		"behind":       {with(look, func(o *offer) { o.Dir = at(-1, -2) }), api.Moon{Body: 2, Glare: million}, true},
		"another tick": {with(look, func(o *offer) { o.Tick, o.Dir = 0, at(1, 2) }), api.Moon{Body: 2}, true}, // it is at (30, 10)
		"the sun":      {with(look, func(o *offer) { o.Dir = at(-9, -4) }), api.Moon{Body: 0}, false},
		"where it is":  {look, api.Moon{Body: 1, Glare: million}, true}, // nothing is ahead
		"field":        {with(look, func(o *offer) { o.Far, o.Wide = 1, 0 }), api.Moon{Body: 2, Glare: 500000}, false},
		"radar":        {with(radar(), func(o *offer) { o.Tick, o.Dir = 1, at(1, 2) }), api.Moon{Body: 2, Glare: million}, true},
		"no such body": {look, api.Moon{Body: 3, Glare: 1}, false},
		"body below 0": {look, api.Moon{Body: -1, Glare: 1}, false},
		"glare":        {look, api.Moon{Body: 2, Glare: -1}, false},
		"too wide":     {with(look, func(o *offer) { o.Dir = at(0, -1) }), api.Moon{Body: 2, Glare: million + 1}, false},
		"widest":       {with(look, func(o *offer) { o.Dir = at(0, -1) }), api.Moon{Body: 2, Glare: million}, true},
		"no radar":     {radar(), api.Moon{Body: 3, Glare: 1}, false},
		"radar, glare": {radar(), api.Moon{Body: 2, Glare: -1}, false},
		"no offer":     {with(radar(), func(o *offer) { o.Far = 0 }), api.Moon{Body: 2}, false},
	} {
		if is := watch.Dark(s, c.o, c.m); is != c.is {
			t.Error(name, is)
		}
	}
	if !watch.Dark(heaven(), radar(), api.Moon{}) || watch.Dark(badSky(), radar(), api.Moon{}) {
		t.Error("a sky that is not valid")
	}
	off := with(telescope(), func(o *offer) { o.Tick, o.Station, o.Dir = 1, 4, at(7, 22) })
	if watch.Dark(s, off, api.Moon{Body: 2}) { // from (93, 38)
		t.Error("from the station")
	}
}
