package sky_test

import (
	"testing"

	"bolide/api"
	"bolide/sky"
)

// worldWith returns a world of one body, changed.
func worldWith(change func(w *api.World)) api.World {
	w := api.World{Bodies: []api.Body{{Track: []api.Vec{at(0, 0)}}}}
	change(&w)
	return w
}

// skyWith returns the sky of the examples, changed.
func skyWith(change func(s *api.Sky)) api.Sky {
	s := heaven()
	change(&s)
	return s
}

func TestP2_1CheckWorld(t *testing.T) {
	body := api.Body{Track: []api.Vec{at(0, 0)}}
	bad := api.Body{Mu: -1}
	for name, c := range map[string]struct {
		w api.World
		e api.Errno
	}{
		"examples":     {world(), api.OK},
		"no bodies":    {api.World{}, api.ErrShort},
		"many bodies":  {api.World{Bodies: make([]api.Body, 9)}, api.ErrFull},
		"eight bodies": {api.World{Bodies: []api.Body{body, body, body, body, body, body, body, body}, Home: 7}, api.OK},
		"mu":           {worldWith(func(w *api.World) { w.Bodies[0].Mu = 1 << 50 }), api.OK},
		"mu more":      {worldWith(func(w *api.World) { w.Bodies[0].Mu = 1<<50 + 1 }), api.ErrRange},
		"mu less":      {worldWith(func(w *api.World) { w.Bodies[0].Mu = -1 }), api.ErrRange},
		"radius":       {worldWith(func(w *api.World) { w.Bodies[0].Radius = 1 << 20 }), api.OK},
		"radius more":  {worldWith(func(w *api.World) { w.Bodies[0].Radius = 1<<20 + 1 }), api.ErrRange},
		"radius less":  {worldWith(func(w *api.World) { w.Bodies[0].Radius = -1 }), api.ErrRange},
		"no track":     {worldWith(func(w *api.World) { w.Bodies[0].Track = nil }), api.ErrShort},
		"track":        {worldWith(func(w *api.World) { w.Bodies[0].Track = make([]api.Vec, 4096) }), api.OK},
		"track more":   {worldWith(func(w *api.World) { w.Bodies[0].Track = make([]api.Vec, 4097) }), api.ErrFull},
		"place":        {worldWith(func(w *api.World) { w.Bodies[0].Track = []api.Vec{at(0, 0), at(-place, place)} }), api.OK},
		"x more":       {worldWith(func(w *api.World) { w.Bodies[0].Track = []api.Vec{at(0, 0), at(place+1, 0)} }), api.ErrRange},
		"x less":       {worldWith(func(w *api.World) { w.Bodies[0].Track = []api.Vec{at(-place-1, 0)} }), api.ErrRange},
		"y more":       {worldWith(func(w *api.World) { w.Bodies[0].Track = []api.Vec{at(0, place+1)} }), api.ErrRange},
		"y less":       {worldWith(func(w *api.World) { w.Bodies[0].Track = []api.Vec{at(0, least)} }), api.ErrRange},
		"home":         {worldWith(func(w *api.World) { w.Home = 1 }), api.ErrMissing},
		"home less":    {worldWith(func(w *api.World) { w.Home = -1 }), api.ErrMissing},
		"count first":  {api.World{Bodies: []api.Body{bad, bad, bad, bad, bad, bad, bad, bad, bad}, Home: -1}, api.ErrFull},
		"mu first":     {worldWith(func(w *api.World) { w.Bodies[0] = bad; w.Home = 9 }), api.ErrRange},
		"track first":  {worldWith(func(w *api.World) { w.Bodies[0].Track = nil; w.Bodies = append(w.Bodies, bad) }), api.ErrShort},
		"body by body": {worldWith(func(w *api.World) {
			w.Bodies[0].Track[0].X = place + 1
			w.Bodies = append(w.Bodies, api.Body{})
		}), api.ErrRange},
		"second body": {worldWith(func(w *api.World) { w.Bodies = append(w.Bodies, api.Body{}); w.Home = 5 }), api.ErrShort},
	} {
		if e := sky.CheckWorld(c.w); e != c.e {
			t.Error(name, e)
		}
		if e := sky.Check(api.Sky{World: c.w}); e != c.e {
			t.Error("sky of", name, e)
		}
	}
}

func TestP2_1Check(t *testing.T) {
	stations := func(l ...api.Station) func(s *api.Sky) { return func(s *api.Sky) { s.Stations = l } }
	catalogs := func(l ...api.Catalog) func(s *api.Sky) { return func(s *api.Sky) { s.Catalogs = l } }
	var manyStations []api.Station
	var manyCatalogs []api.Catalog
	for i := range 17 {
		manyStations = append(manyStations, api.Station{ID: i + 1})
		manyCatalogs = append(manyCatalogs, api.Catalog{Version: i + 1})
	}
	for name, c := range map[string]struct {
		change func(s *api.Sky)
		e      api.Errno
	}{
		"examples":       {func(s *api.Sky) {}, api.OK},
		"no stations":    {stations(), api.OK},
		"no catalogs":    {catalogs(), api.OK},
		"16 stations":    {stations(manyStations[:16]...), api.OK},
		"17 stations":    {stations(manyStations...), api.ErrFull},
		"8 catalogs":     {catalogs(manyCatalogs[:8]...), api.OK},
		"9 catalogs":     {catalogs(manyCatalogs[:9]...), api.ErrFull},
		"ID 0":           {stations(api.Station{}), api.ErrOrder},
		"ID below 0":     {stations(api.Station{ID: -5}), api.ErrOrder},
		"same ID":        {stations(api.Station{ID: 3}, api.Station{ID: 3}), api.ErrOrder},
		"ID descends":    {stations(api.Station{ID: 3}, api.Station{ID: 2}), api.ErrOrder},
		"off":            {stations(api.Station{ID: 1, Off: at(1<<20, -1<<20)}), api.OK},
		"off X":          {stations(api.Station{ID: 1, Off: at(1<<20+1, 0)}), api.ErrRange},
		"off Y":          {stations(api.Station{ID: 1, Off: at(0, -1<<20-1)}), api.ErrRange},
		"off least":      {stations(api.Station{ID: 1, Off: at(least, 0)}), api.ErrRange},
		"ID first":       {stations(api.Station{ID: 0, Off: at(most, 0)}), api.ErrOrder},
		"first station":  {stations(api.Station{ID: 1, Off: at(most, 0)}, api.Station{ID: 1}), api.ErrRange},
		"version 0":      {catalogs(api.Catalog{}), api.ErrOrder},
		"same version":   {catalogs(api.Catalog{Version: 1}, api.Catalog{Version: 1}), api.ErrOrder},
		"bias":           {catalogs(api.Catalog{Version: 4, Bias: of(-500000, 500000)}), api.OK},
		"bias of one":    {catalogs(api.Catalog{Version: 4, Bias: of(500000, 500000)}), api.OK},
		"bias less":      {catalogs(api.Catalog{Version: 4, Bias: of(-500001, 0)}), api.ErrRange},
		"bias more":      {catalogs(api.Catalog{Version: 4, Bias: of(0, 500001)}), api.ErrRange},
		"bias descends":  {catalogs(api.Catalog{Version: 4, Bias: of(1, 0)}), api.ErrRange},
		"bias above":     {catalogs(api.Catalog{Version: 4, Bias: of(500001, 500001)}), api.ErrRange},
		"version first":  {catalogs(api.Catalog{Version: 0, Bias: of(1, 0)}), api.ErrOrder},
		"first catalog":  {catalogs(api.Catalog{Version: 1, Bias: of(1, 0)}, api.Catalog{}), api.ErrRange},
		"stations first": {func(s *api.Sky) { s.Stations[0].Off.X = most; s.Catalogs = manyCatalogs }, api.ErrRange},
		"world first":    {func(s *api.Sky) { s.World.Home = 2; s.Stations = manyStations }, api.ErrMissing},
	} {
		if e := sky.Check(skyWith(c.change)); e != c.e {
			t.Error(name, e)
		}
	}
}

func TestP2_1At(t *testing.T) {
	w := world()
	w.Bodies[0].Track = []api.Vec{at(1, 2), at(-3, 4), at(place, -place)}
	for _, c := range []struct {
		body int
		tick int64
		p    api.Vec
	}{
		{1, 3, at(0, 1000)}, {1, 0, at(1000, 0)}, {1, 1, at(0, 1000)}, {1, 2, at(1000, 0)}, {1, 1 << 30, at(1000, 0)},
		{0, 0, at(1, 2)}, {0, 1, at(-3, 4)}, {0, 2, at(place, -place)}, {0, 3, at(1, 2)}, {0, 1 << 30, at(-3, 4)},
		{0, -1, at(0, 0)}, {0, 1<<30 + 1, at(0, 0)}, {0, least, at(0, 0)}, {0, most, at(0, 0)}, {2, 0, at(0, 0)}, {-1, 0, at(0, 0)},
	} {
		if p := sky.At(w, c.body, c.tick); p != c.p {
			t.Error(c, p)
		}
	}
	w.Home = 7
	if p := sky.At(w, 1, 3); p != at(0, 0) {
		t.Error("not valid", p)
	}
}

func TestP2_1Where(t *testing.T) {
	s := heaven()
	s.Stations = append(s.Stations, api.Station{ID: 9, Off: at(-1, -2)})
	for _, c := range []struct {
		station int
		tick    int64
		p       api.Vec
		ok      bool
	}{
		{7, 2, at(1000, 10), true}, {7, 1, at(0, 1010), true}, {9, 1, at(-1, 998), true}, {9, 1 << 30, at(999, -2), true},
		{8, 2, at(0, 0), false}, {0, 2, at(0, 0), false}, {7, -1, at(0, 0), false}, {7, 1<<30 + 1, at(0, 0), false}, {7, least, at(0, 0), false},
	} {
		if p, ok := sky.Where(s, c.station, c.tick); p != c.p || ok != c.ok {
			t.Error(c, p, ok)
		}
	}
	s.Catalogs[0].Version = 0
	if p, ok := sky.Where(s, 7, 2); p != at(0, 0) || ok {
		t.Error("not valid", p, ok)
	}
	if p := sky.At(s.World, 1, 3); p != at(0, 1000) {
		t.Error("a world does not depend on its sky", p)
	}
}
