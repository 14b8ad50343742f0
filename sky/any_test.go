package sky_test

import (
	"reflect"
	"testing"

	"bolide/api"
	"bolide/sky"
)

// numbers are ordinary ones, and those at and beyond each limit.
func numbers() []int64 {
	return []int64{
		0, 1, -1, 2, 3, 7, 10, 100, -90, 1000, 4096, 4097, -4096, -4097, 500000, 500001, -500001, 1 << 20, 1<<20 + 1, -1 << 20,
		place, place + 1, -place, -place - 1, 1 << 27, 1<<27 + 1, 1 << 30, 1<<30 + 1, 1 << 50, 1<<50 + 1, 1 << 62, most, least, least + 1,
	}
}

// wild returns a sky, a sight, an area and a guess of which each number may be any one.
func wild(pick func() int64) (api.Sky, api.Sight, api.Area, api.State) {
	s := heaven()
	s.World.Bodies[0].Mu = pick()
	s.World.Bodies[1].Track[1] = at(pick(), pick())
	s.Stations[0].Off = at(pick(), pick())
	s.Catalogs[1].Bias = of(pick(), pick())
	x := api.Sight{Kind: int(pick()), Station: int(pick()), Catalog: int(pick()), Tick: pick(), Dir: at(pick(), pick()), Err: pick(), Lo: pick(), Hi: pick()}
	return s, x, area(pick(), pick(), pick(), pick()), state(pick(), pick(), pick(), pick())
}

// TestP1AllArguments calls each function with numbers of any size: none panics, and with an error there is no result.
func TestP1AllArguments(t *testing.T) {
	l := numbers()
	d := draw(1)
	for i := range 60000 {
		small := int64(len(l))
		if i%3 > 0 {
			small = 8 // mostly valid
		}
		pick := func() int64 { return l[d.below(small)] }
		s, x, a, g := wild(pick)
		sights, guesses := []api.Sight{x, x}, []api.State{g}
		if i%2 == 0 {
			guesses = append(guesses, state(1, 1, 1, 1))
			sights = append(sights, upwards())
		}
		sky.At(s.World, int(pick()), pick())
		sky.Where(s, int(pick()), pick())
		if sky.Agrees(s, x, at(g.X, g.Y)) && sky.Excludes(s, x, area(g.X, g.X, g.Y, g.Y)) {
			t.Fatal(s, x, g)
		}
		sky.Excludes(s, x, a)
		sky.Miss(s, sights, g, pick())
		if n, r, e := sky.Link(s, sights, sights, guesses, pick()); e != api.OK && (n != 0 || r != nil) {
			t.Fatal("Link", n, r, e)
		}
		if n, r, e := sky.Believe(s, sights, guesses, pick()); e != api.OK && (n != 0 || r != nil) {
			t.Fatal("Believe", n, r, e)
		}
		if r, e := sky.Groups(s, [][]api.Sight{sights, sights}, guesses, pick()); e != api.OK && r != nil {
			t.Fatal("Groups", r, e)
		}
	}
}

// TestR4Arguments finds arguments as they were.
func TestR4Arguments(t *testing.T) {
	s, l, guesses := heaven(), [][]api.Sight{{upwards(), rightwards()}, {upwards()}}, []api.State{state(1000, 110, 0, 0), state(1000, 110, -500, 900)}
	sky.Where(s, 7, 1)
	sky.Agrees(s, upwards(), at(1, 1))
	sky.Excludes(s, nothing(), area(0, 1, 0, 1))
	sky.Link(s, l[0], l[1], guesses, 0)
	sky.Believe(s, l[0], guesses, 0)
	sky.Groups(s, l, guesses, 0)
	if !reflect.DeepEqual(s, heaven()) || !reflect.DeepEqual(l, [][]api.Sight{{upwards(), rightwards()}, {upwards()}}) || !reflect.DeepEqual(guesses, []api.State{state(1000, 110, 0, 0), state(1000, 110, -500, 900)}) {
		t.Error("changed")
	}
}

// TestP2_2Greatest has the greatest numbers that the limits allow: products stay exact.
func TestP2_2Greatest(t *testing.T) {
	s := api.Sky{
		World:    api.World{Bodies: []api.Body{{Mu: api.MaxMu, Radius: api.MaxRadius, Track: []api.Vec{at(-place, -place)}}}},
		Stations: []api.Station{{ID: int(most), Off: at(-api.MaxRadius, -api.MaxRadius)}},
		Catalogs: []api.Catalog{{Version: int(most), Bias: of(-api.MaxErr, api.MaxErr)}},
	}
	x := api.Sight{Kind: api.SightAngle, Station: int(most), Catalog: int(most), Tick: api.MaxTick, Dir: at(4096, 4096), Err: api.MaxErr, Hi: 1 << 27}
	if !sky.Agrees(s, x, at(place, place)) || !sky.Agrees(s, x, at(place, -place)) || sky.Excludes(s, x, area(-place, place, -place, place)) {
		t.Error("an angle of a million to each side has all places ahead")
	}
	x.Dir = at(-4096, -4096)
	if sky.Agrees(s, x, at(place, place)) || !sky.Excludes(s, x, area(-place, place, -place, place)) {
		t.Error("no place is behind that station")
	}
	x.Dir, x.Kind = at(4096, 4096), api.SightEmpty
	if !sky.Excludes(s, x, area(-place, place, -place, place)) || sky.Agrees(s, x, at(place, place)) {
		t.Error("an empty look that sees all")
	}
	x.Hi = 1
	if sky.Excludes(s, x, area(-place, place, -place, place)) || !sky.Agrees(s, x, at(place, place)) {
		t.Error("an empty look that sees nothing")
	}
	x.Kind, x.Lo, x.Hi = api.SightRange, 1<<27, 1<<27
	if !sky.Excludes(s, x, area(-place, place, -place, place)) || sky.Agrees(s, x, at(place, place)) {
		t.Error("a range beyond all")
	}
}
