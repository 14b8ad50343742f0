package blast_test

import (
	"reflect"
	"slices"
	"testing"

	"bolide/api"
	"bolide/blast"
)

// TestDocExample is the row of the document's examples for this layer.
func TestDocExample(t *testing.T) {
	if n, energy, e := blast.Ends(twoLayers(), stone()); n != 2 || energy != 8910000 || e != api.OK {
		t.Error(n, energy, e)
	}
}

// numbers are ordinary ones, and those at and beyond each limit.
func numbers() []int64 {
	return []int64{
		0, 1, 2, 3, 500, 600, 999, 1000, 501, 5, 7, -1, -3, 32, 33, 400, 401, 499, 1001, 2000, 2001, 8000, 8001, 9000, 9001,
		1 << 31, crowd, crowd + 1, 1 << 40, 1<<40 + 1, num, num + 1, -num, -num - 1, most, most - 1, least, least + 1,
	}
}

// wildOf returns arguments of which each number may be any one.
func wildOf(pick func() int64) (scene, api.Stone) {
	span := func() api.Span {
		n := pick()
		return of(n, n+pick()%3)
	}
	c := scene{air: air(layer(pick(), pick()), layer(pick(), pick())), grades: grades(grade(0, pick()), grade(pick(), pick()))}
	c.land = landOf("~..~~.", pick(), 1, pick(), 2, 3, pick())
	c.body.rock.Pile = pick() > 2
	s := api.Stone{Pile: pick() > 2}
	for _, p := range spansOf(&c.body) {
		*p = span()
	}
	for _, p := range partsOf(&s) {
		*p = pick()
	}
	c.body.rock.Shape.Lo, c.body.rock.Shape.Hi, s.Shape = 500+pick()%600, 800+pick(), 499+pick()
	c.from, c.to = int(pick()), int(pick())
	return c, s
}

// TestP1AllArguments calls each function with numbers of any size: none panics, and with an error there is no result.
func TestP1AllArguments(t *testing.T) {
	l := numbers()
	draw := draw(1)
	right := map[string]int{}
	for i := range 100000 {
		small := int64(len(l))
		if i%4 > 0 {
			small = 9 // mostly valid
		}
		pick := func() int64 { return l[draw.below(small)] }
		c, s := wildOf(pick)
		check := func(name string, isZero bool, e api.Errno) {
			if e != api.OK && !isZero {
				t.Fatal(name, c, s, e)
			}
			if e == api.OK {
				right[name]++
			}
		}
		layer, energy, e := blast.Ends(c.air, s)
		check("Ends", layer == 0 && energy == 0, e)
		list, e := blast.Blows(c.air, c.body.rock, c.body.fall)
		check("Blows", len(list) == 0, e)
		harm, e := blast.Harms(c.air, c.grades, c.land, int(pick()), pick(), int(pick()))
		check("Harms", harm == 0, e)
		toll, e := c.toll()
		check("Toll", toll == of(0, 0), e)
		worst, e := c.worst()
		check("Worst", worst == 0, e)
		if layer < 0 || energy < 0 || harm < 0 || toll.Lo > toll.Hi || toll.Lo < 0 {
			t.Fatal(c, s, layer, energy, harm, toll)
		}
		checkOthers(t, c, s, pick())
	}
	for name, n := range right {
		if n < 100 {
			t.Error("too few right calls", name, n)
		}
	}
	if len(right) != 5 {
		t.Error(right)
	}
}

// checkOthers calls the functions that have no errors.
func checkOthers(t *testing.T, c scene, s api.Stone, n int64) {
	t.Helper()
	isStone, isRock := blast.CheckStone(s) == api.OK, blast.CheckRock(c.body.rock, c.body.fall) == api.OK
	if blast.Of(s, c.body.rock, c.body.fall) && !(isStone && isRock) {
		t.Fatal("Of", c, s)
	}
	if !isStone && (blast.Mass(s) != 0 || blast.Holds(s) != 0) {
		t.Fatal(s)
	}
	if r := blast.Reach(c.grades, n); r < 0 || r > 400 || blast.CheckGrades(c.grades) != api.OK && r != 0 {
		t.Fatal("Reach", c, n)
	}
	harm, wave := blast.Harm(c.land, c.from, n), blast.Wave(c.land, c.from, n)
	if harm < wave || wave < 0 || blast.CheckLand(c.land) != api.OK && harm != 0 {
		t.Fatal("Harm", c, n)
	}
	if blast.Crater(n) < 0 {
		t.Fatal(n)
	}
}

// TestR4Arguments finds arguments as they were, and results that share no memory with them.
func TestR4Arguments(t *testing.T) {
	make := func() scene {
		k := rock()
		k.rock.Strong = of(0, 1000000)
		return scene{twoLayers(), threeGrades(), fiveCells(), k, 0, 4}
	}
	c := make()
	first := allBlows(t, c.air, c.body)
	again := slices.Clone(first)
	for i := range first[:cap(first)] {
		first[:cap(first)][i] = blow(9, 9, 9)
	}
	if other := allBlows(t, c.air, c.body); !slices.Equal(other, again) {
		t.Error(other)
	}
	c.toll()
	c.worst()
	blast.Ends(c.air, stone())
	blast.Reach(c.grades, 5)
	blast.Harm(c.land, 2, 3)
	blast.Wave(c.land, 2, 3)
	blast.Harms(c.air, c.grades, c.land, 2, 5, 2)
	if !reflect.DeepEqual(c, make()) {
		t.Error("changed")
	}
}

// TestR4Capacity sees nothing of what lies beyond the end of a slice.
func TestR4Capacity(t *testing.T) {
	x := fiveCells()
	x.People, x.Water = x.People[:3], x.Water[:3]
	if a, b := blast.Harm(x, 0, 400), blast.Wave(x, 2, 400); a != 60 || b != 50 {
		t.Error(a, b)
	}
	k := rock()
	if got, e := blast.Blows(twoLayers()[:1], k.rock, k.fall); !slices.Equal(got, blows(blow(1, 9900000, 9900000))) || e != api.OK {
		t.Error(got, e)
	}
}

// TestP1Greatest asks for the toll of the most blows on the longest stretch, with the longest reach.
func TestP1Greatest(t *testing.T) {
	c := scene{grades: grades(grade(0, 399)), to: 399, land: api.Land{People: make([]int64, 400), Water: make([]bool, 400)}, body: justOf(stone())}
	for i := range c.land.People {
		c.land.People[i], c.land.Water[i] = crowd, i < 200
	}
	for range 32 {
		c.air = append(c.air, layer(1, 1))
	}
	c.body.rock.Strong = of(0, 1<<40)
	if list := allBlows(t, c.air, c.body); len(list) != 33 {
		t.Error(list)
	}
	if toll, e := c.toll(); toll != of(201*crowd, 400*crowd) || e != api.OK {
		t.Error(toll, e)
	}
	if worst, e := c.worst(); worst != 1 || e != api.OK { // the lowest blow in the air reaches 398
		t.Error(worst, e)
	}
}
