package blast_test

import (
	"math/bits"
	"slices"
	"testing"

	"bolide/api"
	"bolide/blast"
	"bolide/span"
)

// enough is whether each kind of case came up often enough.
func enough(t *testing.T, counts ...int) {
	t.Helper()
	for _, n := range counts {
		if n < 100 {
			t.Error("too few cases", counts)
			return
		}
	}
}

// harms is Harms of what is valid.
func (c scene) harms(t *testing.T, layer int, energy int64, at int) int64 {
	t.Helper()
	n, e := blast.Harms(c.air, c.grades, c.land, layer, energy, at)
	if e != api.OK {
		t.Fatal(c, layer, energy, at, e)
	}
	return n
}

// isIn reports whether a blow of this layer has all these energies.
func isIn(list []api.Blow, layer int, energies api.Span) bool {
	return slices.ContainsFunc(list, func(b api.Blow) bool { return b.Layer == layer && span.Inside(energies, b.Energy) })
}

func TestP7_6Enclosure(t *testing.T) {
	d := draw(76)
	inAir, ground, several, within := 0, 0, 0, 0
	for range 20000 {
		c := d.scene()
		s := d.stoneOf(c.body)
		if !blast.Of(s, c.body.rock, c.body.fall) {
			t.Fatal(c, s)
		}
		list := allBlows(t, c.air, c.body)
		n, energy := endsOf(t, c.air, s)
		if !isIn(list, n, one(energy)) {
			t.Fatal(c, s, list, n, energy)
		}
		toll, e := c.toll()
		for at := c.from; at <= c.to; at++ {
			harm := c.harms(t, n, energy, at)
			if e != api.OK || !span.In(toll, harm) {
				t.Fatal(c, s, toll, harm, e)
			}
			if toll.Lo < harm && harm < toll.Hi {
				within++
			}
		}
		if n < len(c.air) {
			inAir++
		} else {
			ground++
		}
		if len(list) > 1 {
			several++
		}
	}
	enough(t, inAir, ground, several, within)
}

func TestP7_7Inclusion(t *testing.T) {
	d := draw(77)
	fewer, narrower, lessHarm := 0, 0, 0
	for range 20000 {
		c := d.scene()
		lesser := c
		lesser.body = d.lesser(c.body)
		if d.below(2) == 0 {
			ends := d.inside(of(int64(c.from), int64(c.to)))
			lesser.from, lesser.to = int(ends.Lo), int(ends.Hi)
		}
		list, part := allBlows(t, c.air, c.body), allBlows(t, c.air, lesser.body)
		for _, b := range part {
			if !isIn(list, b.Layer, b.Energy) {
				t.Fatal(c, lesser, list, part)
			}
			if !slices.Contains(list, b) {
				narrower++
			}
		}
		if len(part) < len(list) {
			fewer++
		}
		toll, e := c.toll()
		lessToll, e2 := lesser.toll()
		if e != api.OK || e2 != api.OK || !span.Inside(lessToll, toll) {
			t.Fatal(c, lesser, toll, lessToll, e, e2)
		}
		if lessToll != toll {
			lessHarm++
		}
	}
	enough(t, fewer, narrower, lessHarm)
}

func TestP7_8OneStone(t *testing.T) {
	d := draw(78)
	inAir, ground := 0, 0
	for range 20000 {
		l, s := d.air(32), d.stone()
		n, energy := endsOf(t, l, s)
		if list := allBlows(t, l, justOf(s)); !slices.Equal(list, blows(blow(n, energy, energy))) {
			t.Fatal(l, s, list, n, energy)
		}
		if n < len(l) {
			inAir++
		} else {
			ground++
		}
	}
	enough(t, inAir, ground)
}

func TestP7_9StrongerAndFaster(t *testing.T) {
	d := draw(79)
	lower, higher := 0, 0
	for range 20000 {
		l, s := d.air(8), d.stone()
		n, _ := endsOf(t, l, s)
		stronger := with(s, func(s *api.Stone) { s.Strong = d.scale(of(s.Strong, 1<<40)) })
		m, _ := endsOf(t, l, stronger)
		if m < n {
			t.Fatal(l, s, stronger, n, m)
		}
		if m > n {
			lower++
		}
		faster := with(s, func(s *api.Stone) { s.Speed = d.scale(of(s.Speed, 8000)) })
		m, _ = endsOf(t, l, faster)
		if m > n {
			t.Fatal(l, s, faster, n, m)
		}
		if m < n {
			higher++
		}
	}
	enough(t, lower, higher)
}

func TestP7_9Thicker(t *testing.T) {
	d := draw(799)
	slower, equal, deeper := 0, 0, 0
	for range 20000 {
		l, s := d.air(8), d.stone()
		thicker := slices.Clone(l)
		for i := range thicker {
			if d.below(2) == 0 {
				thicker[i].Thick = d.scale(of(l[i].Thick, 1000))
			}
		}
		n, energy := endsOf(t, l, s)
		if mass := blast.Mass(s); n < len(l) && mass > 0 { // so strong that it just bursts there
			s.Strong, s.Spin = l[n].Dens*(energy/mass), 0
		}
		m, less := endsOf(t, thicker, s)
		switch {
		case m != n:
			deeper++
		case less > energy:
			t.Fatal(l, thicker, s, n, energy, less)
		case less < energy:
			slower++
		default:
			equal++
		}
	}
	enough(t, slower, equal, deeper)
}

func TestP7_10MoreHarm(t *testing.T) {
	d := draw(710)
	more, same, fewerByWave := 0, 0, 0
	for range 20000 {
		c := scene{air: d.air(4), grades: d.grades(), land: d.land(20)}
		layer, at := int(d.below(int64(len(c.air)+1))), int(d.below(int64(len(c.land.People))))
		energy := d.scale(of(0, num))
		few, many := c.harms(t, layer, energy, at), c.harms(t, layer, d.scale(of(energy, num)), at)
		if few > many {
			t.Fatal(c, layer, at, energy, few, many)
		}
		if few < many {
			more++
		} else {
			same++
		}
		reach := d.below(10)
		longer := reach + d.below(10)
		wave, harm := blast.Wave(c.land, at, reach), blast.Harm(c.land, at, reach)
		if wave > harm || wave > blast.Wave(c.land, at, longer) || harm > blast.Harm(c.land, at, longer) {
			t.Fatal(c, at, reach, longer, wave, harm)
		}
		if 0 < wave && wave < harm {
			fewerByWave++
		}
	}
	enough(t, more, same, fewerByWave)
}

func TestP7_11NobodyTwice(t *testing.T) {
	d := draw(711)
	all, some := 0, 0
	for range 10000 {
		c := d.scene()
		sum := int64(0)
		for _, n := range c.land.People {
			sum += n
		}
		at, reach := int(d.below(int64(len(c.land.People)))), d.scale(of(0, most))
		toll, _ := c.toll()
		for _, n := range []int64{
			blast.Harm(c.land, at, reach), blast.Wave(c.land, at, reach),
			c.harms(t, len(c.air), reach, at), c.harms(t, 0, reach, at), toll.Hi,
		} {
			if n < 0 || n > sum {
				t.Fatal(c, at, reach, n, sum)
			}
			if n == sum {
				all++
			} else {
				some++
			}
		}
	}
	enough(t, all, some)
}

func TestP7_12Worst(t *testing.T) {
	d := draw(712)
	later := 0
	for range 10000 {
		c := d.scene()
		toll, _ := c.toll()
		worst, e := c.worst()
		if e != api.OK || worst < c.from || worst > c.to {
			t.Fatal(c, worst, e)
		}
		greatest := func(at int) int64 {
			n := int64(0)
			for _, b := range allBlows(t, c.air, c.body) {
				n = max(n, c.harms(t, b.Layer, b.Energy.Hi, at))
			}
			return n
		}
		for at := c.from; at <= c.to; at++ {
			if n := greatest(at); n > toll.Hi || at == worst && n < toll.Hi || at < worst && n == toll.Hi {
				t.Fatal(c, toll, worst, at, n)
			}
		}
		if worst > c.from {
			later++
		}
	}
	enough(t, later)
}

func TestP7_13Piles(t *testing.T) {
	d := draw(713)
	for range 1000 {
		s := d.stone()
		s.Spin = 0
		pile, whole := with(s, func(s *api.Stone) { s.Pile = true }), with(s, func(s *api.Stone) { s.Pile = false })
		if blast.Holds(pile) != blast.Holds(whole) || blast.Holds(whole) != s.Strong {
			t.Fatal(s, blast.Holds(pile), blast.Holds(whole))
		}
		pile.Spin = 1000
		if n := blast.Holds(pile); n != 0 {
			t.Fatal(pile, n)
		}
	}
}

// fourth returns the fourth power of n, as two words.
func fourth(n int64) (hi, lo uint64) {
	return bits.Mul64(uint64(n*n), uint64(n*n))
}

func TestP7_14Crater(t *testing.T) {
	d := draw(714)
	for i := range int64(30000) {
		energy := d.scale(of(0, most))
		if i < 1000 {
			energy = i
		} else if i < 20000 { // at and beside fourth powers
			n := 1 + i%55108
			_, power := fourth(n)
			energy = int64(power) + i%3 - 1
		}
		n := blast.Crater(energy)
		hi, lo := fourth(n)
		nextHi, next := fourth(n + 1)
		if hi > 0 || lo > uint64(energy) || nextHi == 0 && next <= uint64(energy) || n < 0 {
			t.Fatal(energy, n)
		}
	}
}
