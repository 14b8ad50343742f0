package blast_test

import (
	"testing"

	"bolide/api"
	"bolide/blast"
)

func TestP7_4Harms(t *testing.T) {
	for i, c := range []struct {
		layer  int
		energy int64
		at     int
		want   int64
	}{
		{2, 8910000, 2, 140}, // the wave comes to 1 and 4
		{2, 8910000, 1, 100},
		{1, 9900000, 1, 60},
		{1, 9900000, 2, 90}, // in the air it is no wave
		{1, 9900000, 3, 120},
		{0, 9900000, 1, 20}, // its reach is 2 less 2
		{0, 4999999, 1, 20}, // and no less than 0
		{0, 20000000, 2, 150},
		{0, 20000000, 0, 60},
		{1, 20000000, 0, 100},
		{2, 20000000, 0, 150},
		{2, 0, 2, 90},
		{2, -1, 2, 30}, // there is no grade: only the cell itself
		{2, -1, 1, 20},
		{2, least, 1, 20},
		{1, most, 4, 140},
		{2, most, 4, 150},
		{2, most, 3, 140},
	} {
		if got, e := blast.Harms(twoLayers(), threeGrades(), fiveCells(), c.layer, c.energy, c.at); got != c.want || e != api.OK {
			t.Error(i, got, e)
		}
	}
}

func TestP7_4HarmsWithoutAir(t *testing.T) {
	for i, c := range []struct {
		at   int
		want int64
	}{{2, 90}, {1, 60}, {0, 30}} {
		if got, e := blast.Harms(nil, threeGrades(), fiveCells(), 0, 0, c.at); got != c.want || e != api.OK {
			t.Error(i, got, e)
		}
	}
}

func TestP7_4HarmsErrors(t *testing.T) {
	badAir, badGrades, badLand := air(layer(0, 1)), grades(grade(0, 2), grade(0, 2)), landOf("..", 1)
	for i, c := range []struct {
		l         []api.Layer
		g         []api.Grade
		x         api.Land
		layer, at int
		want      api.Errno
	}{
		{badAir, badGrades, badLand, -1, -1, api.ErrRange},
		{make([]api.Layer, 33), badGrades, badLand, -1, -1, api.ErrFull},
		{twoLayers(), badGrades, badLand, -1, -1, api.ErrOrder},
		{twoLayers(), nil, badLand, -1, -1, api.ErrShort},
		{twoLayers(), threeGrades(), badLand, -1, -1, api.ErrForm},
		{twoLayers(), threeGrades(), api.Land{}, -1, -1, api.ErrShort},
		{twoLayers(), threeGrades(), fiveCells(), -1, -1, api.ErrRange},
		{twoLayers(), threeGrades(), fiveCells(), 3, 5, api.ErrRange},
		{twoLayers(), threeGrades(), fiveCells(), int(least), 1, api.ErrRange},
		{twoLayers(), threeGrades(), fiveCells(), int(most), 1, api.ErrRange},
		{nil, threeGrades(), fiveCells(), 1, 1, api.ErrRange},
		{twoLayers(), threeGrades(), fiveCells(), 0, -1, api.ErrMissing},
		{twoLayers(), threeGrades(), fiveCells(), 2, 5, api.ErrMissing},
		{twoLayers(), threeGrades(), fiveCells(), 2, int(most), api.ErrMissing},
		{twoLayers(), threeGrades(), fiveCells(), 2, int(least), api.ErrMissing},
	} {
		if got, e := blast.Harms(c.l, c.g, c.x, c.layer, 5, c.at); got != 0 || e != c.want {
			t.Error(i, got, e)
		}
	}
}

// TestP7_4HarmsWords holds Harms against the chapter's words.
func TestP7_4HarmsWords(t *testing.T) {
	d := draw(74)
	waves, blasts, high := 0, 0, 0
	for range 20000 {
		l, g, x := d.air(4), d.grades(), d.land(20)
		layer, at, energy := int(d.below(int64(len(l)+1))), int(d.below(int64(len(x.People)))), d.scale(of(0, num))-5
		got, e := blast.Harms(l, g, x, layer, energy, at)
		if want := harmOf(l, g, x, layer, energy, at); got != want || e != api.OK {
			t.Fatal(l, g, x, layer, energy, at, got, e, want)
		}
		switch {
		case layer < len(l):
			high++
		case x.Water[at]:
			waves++
		default:
			blasts++
		}
	}
	enough(t, waves, blasts, high)
}

func TestP7_5TollAndWorst(t *testing.T) {
	for i, c := range []struct {
		change   func(*body)
		from, to int
		toll     api.Span
		worst    int
	}{
		{func(*body) {}, 0, 1, of(30, 100), 1},
		{func(*body) {}, 0, 0, of(30, 60), 0},
		{func(*body) {}, 1, 1, of(60, 100), 1},
		{func(*body) {}, 0, 4, of(30, 140), 2},
		{func(*body) {}, 2, 3, of(90, 140), 2}, // both are as bad
		{func(*body) {}, 3, 3, of(120, 140), 3},
		{func(*body) {}, 3, 4, of(90, 140), 3},
		{func(*body) {}, 4, 4, of(90, 120), 4},
		{func(k *body) { k.rock.Strong = one(1000000) }, 0, 4, of(60, 140), 2},
		{func(k *body) { k.rock.Strong = one(99000) }, 0, 4, of(30, 120), 3},
		{func(k *body) { k.rock.Strong = one(10000) }, 0, 4, of(10, 50), 4},
		{func(k *body) { k.rock.Strong = of(10000, 99001) }, 0, 4, of(10, 140), 2},
	} {
		k := with(rock(), c.change)
		toll, e := blast.Toll(twoLayers(), threeGrades(), fiveCells(), k.rock, k.fall, c.from, c.to)
		if toll != c.toll || e != api.OK {
			t.Error(i, toll, e)
		}
		worst, e := blast.Worst(twoLayers(), threeGrades(), fiveCells(), k.rock, k.fall, c.from, c.to)
		if worst != c.worst || e != api.OK {
			t.Error(i, worst, e)
		}
	}
}

func TestP7_5Errors(t *testing.T) {
	badAir, badGrades, badLand := air(layer(0, 1)), grades(grade(0, 2), grade(0, 2)), landOf("..", 1)
	wrongWay := with(rock(), func(k *body) { k.fall.Slope = of(2, 1) })
	tooBig := with(rock(), func(k *body) { k.rock.Size = of(1, 1001) })
	for i, c := range []struct {
		l        []api.Layer
		g        []api.Grade
		x        api.Land
		k        body
		from, to int
		want     api.Errno
	}{
		{make([]api.Layer, 33), badGrades, badLand, wrongWay, 9, 8, api.ErrFull},
		{badAir, badGrades, badLand, wrongWay, 9, 8, api.ErrRange},
		{twoLayers(), badGrades, badLand, tooBig, 9, 8, api.ErrRange},
		{twoLayers(), nil, badLand, wrongWay, 9, 8, api.ErrOrder},
		{twoLayers(), nil, badLand, rock(), 9, 8, api.ErrShort},
		{twoLayers(), badGrades, badLand, rock(), 9, 8, api.ErrOrder},
		{twoLayers(), threeGrades(), badLand, rock(), 9, 8, api.ErrForm},
		{twoLayers(), threeGrades(), fiveCells(), rock(), 9, 8, api.ErrMissing},
		{twoLayers(), threeGrades(), fiveCells(), rock(), 5, 0, api.ErrMissing},
		{twoLayers(), threeGrades(), fiveCells(), rock(), 0, 5, api.ErrMissing},
		{twoLayers(), threeGrades(), fiveCells(), rock(), 0, -1, api.ErrMissing},
		{twoLayers(), threeGrades(), fiveCells(), rock(), -1, 0, api.ErrMissing},
		{twoLayers(), threeGrades(), fiveCells(), rock(), int(least), int(most), api.ErrMissing},
		{twoLayers(), threeGrades(), fiveCells(), rock(), 1, 0, api.ErrOrder},
		{twoLayers(), threeGrades(), fiveCells(), rock(), 4, 0, api.ErrOrder},
	} {
		if toll, e := blast.Toll(c.l, c.g, c.x, c.k.rock, c.k.fall, c.from, c.to); toll != of(0, 0) || e != c.want {
			t.Error(i, toll, e)
		}
		if worst, e := blast.Worst(c.l, c.g, c.x, c.k.rock, c.k.fall, c.from, c.to); worst != 0 || e != c.want {
			t.Error(i, worst, e)
		}
	}
}

// TestP7_5Words holds Toll and Worst against the chapter's words.
func TestP7_5Words(t *testing.T) {
	d := draw(75)
	inner, first, later, wide := 0, 0, 0, 0
	for range 10000 {
		c := d.scene()
		toll, e := c.toll()
		worst, e2 := c.worst()
		wantToll, want := tollOf(c.air, c.grades, c.land, c.body, c.from, c.to)
		if toll != wantToll || worst != want || e != api.OK || e2 != api.OK {
			t.Fatal(c, toll, worst, e, e2, wantToll, want)
		}
		switch {
		case worst == c.from:
			first++
		case worst == c.to:
			later++
		default:
			inner++
		}
		if toll.Lo < toll.Hi {
			wide++
		}
	}
	enough(t, inner, first, later, wide)
}
