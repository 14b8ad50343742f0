package watch_test

import (
	"testing"

	"bolide/api"
	"bolide/watch"
)

func seen(isSure bool, lo, hi int64) api.View {
	return api.View{May: true, Sure: isSure, Values: of(lo, hi)}
}

func TestP6_2View(t *testing.T) {
	type offer = api.Offer
	s := heaven()
	s.Catalogs = append(s.Catalogs, api.Catalog{Version: 3, Bias: of(-3000, 500)})
	narrow := with(telescope(), func(o *offer) { o.Wide = 0 })
	long := with(telescope(), func(o *offer) { o.Far = 1 << 27 })
	steep := with(long, func(o *offer) { o.Dir = at(4095, 4096) })
	for i, c := range []struct {
		o offer
		a api.Area
		v api.View
	}{
		{radar(), area(30, 33, 40, 44), seen(true, 48, 57)}, {radar(), area(60, 61, 0, 0), seen(true, 58, 63)}, {radar(), area(200, 201, 0, 0), api.View{}},
		{radar(), area(100, 200, 0, 0), seen(false, 98, 202)}, {radar(), area(101, 200, 0, 0), api.View{}}, {radar(), area(60, 61, 80, 80), seen(false, 98, 103)}, {radar(), area(61, 62, 80, 80), api.View{}},
		{radar(), area(-10, 20, -30, 40), seen(true, -2, 47)}, {radar(), area(-60, -30, -44, -40), seen(true, 48, 77)}, {radar(), area(-5, 5, 10, 20), seen(true, 8, 23)}, {radar(), area(-200, 200, -200, 200), seen(false, -2, 285)},
		{radar(), area(7, 8, 7, 8), seen(true, 7, 14)}, {radar(), spot(3, 4), seen(true, 3, 7)}, // the roots of 98 and 128
		{telescope(), area(100, 200, 10, 20), seen(true, 49000, 201000)}, {telescope(), area(100, 100, 50, 51), seen(false, 499000, 511000)}, {telescope(), area(100, 100, 51, 60), api.View{}}, {telescope(), area(100, 100, -60, -51), api.View{}}, {telescope(), area(100, 100, -60, -50), seen(false, -601000, -499000)}, {telescope(), area(100, 100, 50, 50), seen(true, 499000, 501000)},
		{telescope(), area(-10, 0, -5, 5), api.View{}}, {telescope(), area(-10, 1, -5, 5), seen(false, -slope, slope)}, {telescope(), area(0, 10, 0, 0), seen(false, -slope, slope)}, {telescope(), area(0, 0, 10, 20), api.View{}},
		{telescope(), area(1000, 1001, 0, 0), seen(false, -1000, 1000)}, {telescope(), area(1001, 1002, 0, 0), api.View{}}, {telescope(), area(999, 1000, 0, 1), seen(false, -1000, 2002)},
		{telescope(), area(3, 3, -1, 1), seen(true, -334334, 334334)}, {with(telescope(), func(o *offer) { o.Catalog = 3 }), area(100, 200, 10, 20), seen(true, 48500, 204000)},
		{telescope(), area(1, 10, -20, 20), seen(false, -20001000, 20001000)}, {telescope(), area(-1, 10, 60, 70), api.View{}}, {telescope(), area(-1, 10, -70, -60), api.View{}}, // all corners are beyond a side, though not all are ahead
		{narrow, spot(5, 0), seen(true, -1000, 1000)}, {narrow, area(5, 6, 0, 1), seen(false, -1000, 201000)}, {narrow, area(5, 6, 1, 2), api.View{}},
		{long, area(1, 1, 0, place), seen(false, -1000, slope)}, {long, area(1, 1, -place, 0), seen(false, -slope, 1000)}, {long, area(1, 1, -1000000, 1099510), seen(false, -1000000001000, 1099510001000)}, {long, area(1, 1, -1099510, 1099511), seen(false, -1099510001000, 1099511001000)}, {long, area(1, 1, 0, 1099512), seen(false, -1000, slope)},
	} {
		if v, e := watch.View(s, c.o, c.a); v != c.v || e != api.OK {
			t.Error(i, v, e)
		}
	}
	if v, e := watch.View(s, steep, area(-place, -place+1, place, place)); e != api.OK || v != viewOf(s, steep, area(-place, -place+1, place, place)) {
		t.Error(v, e)
	}
}

func TestP6_2ViewErrors(t *testing.T) {
	type offer = api.Offer
	wide := with(radar(), func(o *offer) { o.Far = 1 << 27 })
	for i, c := range []struct {
		s api.Sky
		o offer
		a api.Area
		e api.Errno
	}{
		{badSky(), offer{}, area(1, 0, 0, 0), api.ErrOrder}, {heaven(), offer{}, area(1, 0, 0, 0), api.ErrKind}, {heaven(), with(radar(), func(o *offer) { o.Station = 0 }), area(1, 0, 0, 0), api.ErrMissing},
		{heaven(), wide, area(1, 0, 0, 0), api.ErrRange}, {heaven(), wide, area(0, 0, 1, 0), api.ErrRange}, {heaven(), wide, area(-place-1, 0, 0, 0), api.ErrRange}, {heaven(), wide, area(0, place+1, 0, 0), api.ErrRange}, {heaven(), wide, area(0, 0, -place-1, 0), api.ErrRange}, {heaven(), wide, area(0, 0, 0, place+1), api.ErrRange},
		{heaven(), wide, area(-place, place, -place, place), api.OK},
	} {
		if v, e := watch.View(c.s, c.o, c.a); e != c.e || e != api.OK && v != (api.View{}) {
			t.Error(i, v, e)
		}
	}
}

func TestP6_2Apart(t *testing.T) {
	type offer = api.Offer
	first, second, third := area(30, 33, 40, 44), area(60, 61, 0, 0), area(200, 201, 0, 0)
	half := area(90, 110, 0, 0) // it may be seen, from 88 to 112
	for i, c := range []struct {
		o    offer
		a, b api.Area
		is   bool
	}{
		{radar(), first, second, true}, {radar(), first, third, true}, {radar(), third, first, true}, {radar(), third, area(300, 301, 0, 0), false}, {radar(), half, third, false}, {radar(), half, first, true}, {radar(), half, area(0, 0, 87, 90), false},
		{radar(), first, area(55, 55, 0, 0), false}, {radar(), first, area(59, 59, 0, 0), false}, {radar(), first, area(60, 60, 0, 0), true}, {radar(), first, area(46, 46, 0, 0), false}, {radar(), first, area(45, 45, 0, 0), true}, {radar(), first, first, false},
		{radar(), half, area(105, 120, 0, 0), false}, {radar(), area(100, 120, 0, 0), area(0, 0, 99, 130), false},
		{telescope(), spot(100, 10), spot(100, 11), true}, {telescope(), spot(1000, 10), spot(1000, 12), false}, {telescope(), spot(999, 10), spot(999, 13), true}, {telescope(), spot(999, 10), spot(-999, 10), true}, {telescope(), spot(-999, 10), spot(-999, 100), false},
		{radar(), first, area(1, 0, 0, 0), false}, {radar(), area(1, 0, 0, 0), first, false}, {radar(), area(0, place+1, 0, 0), first, false}, {with(radar(), func(o *offer) { o.Err = -1 }), first, second, false},
	} {
		if is := watch.Apart(heaven(), c.o, c.a, c.b); is != c.is {
			t.Error(i, is)
		}
	}
	if watch.Apart(badSky(), radar(), first, second) {
		t.Error("a sky that is not valid")
	}
}
