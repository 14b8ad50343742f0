package blast_test

import (
	"testing"

	"bolide/api"
	"bolide/blast"
)

func TestP7_3CheckGrades(t *testing.T) {
	many := func(n int64) []api.Grade {
		var l []api.Grade
		for i := range n {
			l = append(l, grade(i, i))
		}
		return l
	}
	for i, c := range []struct {
		l    []api.Grade
		want api.Errno
	}{
		{nil, api.ErrShort},
		{grades(), api.ErrShort},
		{threeGrades(), api.OK},
		{grades(grade(0, 0)), api.OK},
		{grades(grade(5, 3)), api.OK}, // the first one is of more than 0
		{grades(grade(num, 400)), api.OK},
		{grades(grade(num+1, 0)), api.ErrRange},
		{grades(grade(-1, 0)), api.ErrRange},
		{grades(grade(0, -1)), api.ErrRange},
		{grades(grade(0, 401)), api.ErrRange},
		{grades(grade(0, 3), grade(1, 3)), api.OK},
		{grades(grade(0, 3), grade(0, 3)), api.ErrOrder},
		{grades(grade(0, 3), grade(0, 4)), api.ErrOrder},
		{grades(grade(1, 3), grade(0, 4)), api.ErrOrder},
		{grades(grade(0, 3), grade(1, 2)), api.ErrOrder},
		{grades(grade(0, 0), grade(1, 1), grade(2, 0)), api.ErrOrder},
		{grades(grade(0, 3), grade(0, 401)), api.ErrRange}, // of one grade the numbers first
		{grades(grade(0, 3), grade(-1, 3)), api.ErrRange},
		{grades(grade(0, 3), grade(1, -1)), api.ErrRange},
		{grades(grade(0, 3), grade(num+1, 2)), api.ErrRange},
		{grades(grade(0, 3), grade(0, 3), grade(-1, 0)), api.ErrOrder}, // grade by grade
		{grades(grade(-1, 3), grade(-1, 3)), api.ErrRange},
		{many(32), api.OK},
		{many(33), api.ErrFull},
		{make([]api.Grade, 32), api.ErrOrder},
		{make([]api.Grade, 33), api.ErrFull},
	} {
		if e := blast.CheckGrades(c.l); e != c.want {
			t.Error(i, e)
		}
	}
}

func TestP7_3Reach(t *testing.T) {
	for i, c := range []struct {
		l      []api.Grade
		energy int64
		want   int64
	}{
		{threeGrades(), 8910000, 2},
		{threeGrades(), 4999999, 1},
		{threeGrades(), 5000000, 2},
		{threeGrades(), 19999999, 2},
		{threeGrades(), 20000000, 4},
		{threeGrades(), most, 4},
		{threeGrades(), 0, 1},
		{threeGrades(), -1, 0},
		{threeGrades(), least, 0},
		{grades(grade(5, 3)), 4, 0},
		{grades(grade(5, 3)), 5, 3},
		{grades(grade(0, 2), grade(num, 400)), num, 400},
		{grades(grade(0, 2), grade(num, 400)), num - 1, 2},
		{nil, 5, 0},
		{grades(grade(0, 3), grade(1, 2)), 5, 0},
		{grades(grade(0, 3), grade(0, 4)), 5, 0},
		{grades(grade(0, 401)), 5, 0},
		{make([]api.Grade, 33), 5, 0},
	} {
		if got := blast.Reach(c.l, c.energy); got != c.want {
			t.Error(i, got)
		}
	}
}

func TestP7_3CheckLand(t *testing.T) {
	for i, c := range []struct {
		x    api.Land
		want api.Errno
	}{
		{api.Land{}, api.ErrShort},
		{api.Land{Water: make([]bool, 3)}, api.ErrShort},
		{fiveCells(), api.OK},
		{landOf("~", 0), api.OK},
		{landOf(".", crowd), api.OK},
		{landOf(".", crowd+1), api.ErrRange},
		{landOf(".", -1), api.ErrRange},
		{landOf("....", 1, 2, 3, -1), api.ErrRange},
		{landOf("", 1), api.ErrForm},
		{landOf("..", 1), api.ErrForm},
		{landOf(".", 1, 2), api.ErrForm},
		{landOf("..", -1), api.ErrForm},
		{api.Land{People: make([]int64, 400), Water: make([]bool, 400)}, api.OK},
		{api.Land{People: make([]int64, 400), Water: make([]bool, 399)}, api.ErrForm},
		{api.Land{People: make([]int64, 401), Water: make([]bool, 401)}, api.ErrFull},
		{api.Land{People: make([]int64, 401)}, api.ErrFull},
	} {
		if e := blast.CheckLand(c.x); e != c.want {
			t.Error(i, e)
		}
	}
}

func TestP7_3Harm(t *testing.T) {
	for i, c := range []struct {
		x     api.Land
		at    int
		reach int64
		want  int64
	}{
		{fiveCells(), 0, 1, 30},
		{fiveCells(), 4, 9, 150},
		{fiveCells(), 0, 0, 10},
		{fiveCells(), 2, 0, 30}, // water, too
		{fiveCells(), 2, 1, 90},
		{fiveCells(), 2, 2, 150},
		{fiveCells(), 3, 2, 140},
		{fiveCells(), 4, 1, 90},
		{fiveCells(), 0, 3, 100},
		{fiveCells(), 0, 4, 150},
		{fiveCells(), 2, 400, 150},
		{fiveCells(), 2, 401, 150},
		{fiveCells(), 2, most, 150},
		{fiveCells(), 4, most - 1, 150},
		{fiveCells(), 2, -1, 0},
		{fiveCells(), 2, least, 0},
		{fiveCells(), -1, 2, 0},
		{fiveCells(), 5, 2, 0},
		{fiveCells(), int(most), most, 0},
		{fiveCells(), int(least), most, 0},
		{landOf("...", 1, 2), 0, 1, 0},
		{landOf("..", 1, -2), 0, 0, 0},
		{landOf("..", 1, crowd+1), 0, 0, 0},
		{api.Land{}, 0, 0, 0},
		{landOf("..", crowd, crowd), 0, 1, 2 * crowd},
	} {
		if got := blast.Harm(c.x, c.at, c.reach); got != c.want {
			t.Error(i, got)
		}
	}
}

func TestP7_3Wave(t *testing.T) {
	bits := func(n int) []int64 { // the cells that were harmed can be told from the sum
		var l []int64
		for i := range n {
			l = append(l, 1<<i)
		}
		return l
	}
	for i, c := range []struct {
		x     api.Land
		at    int
		reach int64
		want  int64
	}{
		{fiveCells(), 2, 1, 90},
		{fiveCells(), 3, 5, 140},
		{fiveCells(), 0, 1, 0}, // no water
		{fiveCells(), 2, 0, 30},
		{fiveCells(), 2, 2, 140},
		{fiveCells(), 3, 1, 120},
		{fiveCells(), 3, 2, 140},
		{fiveCells(), 2, most, 140},
		{fiveCells(), 2, -1, 0},
		{fiveCells(), 2, least, 0},
		{fiveCells(), -1, 1, 0},
		{fiveCells(), 5, 1, 0},
		{fiveCells(), int(least), most, 0},
		{fiveCells(), int(most), most, 0},
		{landOf("~", 7), 0, 5, 7},
		{landOf("~~~~", bits(4)...), 1, 400, 0b1111}, // to the ends of the land
		{landOf("~~~~", bits(4)...), 1, 1, 0b0111},
		{landOf("~~~~", bits(4)...), 0, 2, 0b0111},
		{landOf("~~~~", bits(4)...), 3, 2, 0b1110},
		{landOf(".~.", bits(3)...), 1, 0, 0b010},
		{landOf(".~.", bits(3)...), 1, 1, 0b111},
		{landOf("..~..", bits(5)...), 2, 9, 0b01110}, // one cell of land on each side
		{landOf("~.~.~", bits(5)...), 2, 9, 0b01110}, // no farther, though there is water again
		{landOf(".~~~~.", bits(6)...), 1, 2, 0b001111},
		{landOf(".~~~~.", bits(6)...), 1, 3, 0b011111},
		{landOf(".~~~~.", bits(6)...), 1, 4, 0b111111},
		{landOf("~~.", bits(3)...), 0, 1, 0b011},
		{landOf("~~.", bits(3)...), 0, 2, 0b111},
		{landOf(".~~", bits(3)...), 2, 2, 0b111},
		{landOf("~", -1), 0, 1, 0},
		{landOf("~~", 1), 0, 1, 0},
		{landOf("~", 1, 2), 0, 1, 0},
		{api.Land{}, 0, 0, 0},
	} {
		if got := blast.Wave(c.x, c.at, c.reach); got != c.want {
			t.Error(i, got)
		}
	}
}

// TestP7_3LandWords holds Harm and Wave against the chapter's words.
func TestP7_3LandWords(t *testing.T) {
	d := draw(73)
	waves, land, all := 0, 0, 0
	for range 20000 {
		x := d.land(20)
		at, reach := int(d.below(int64(len(x.People)))), d.below(12)
		if got, want := blast.Harm(x, at, reach), peopleWhere(x, func(i int) bool { return isNear(i, at, reach) }); got != want {
			t.Fatal(x, at, reach, got, want)
		}
		want := peopleWhere(x, func(i int) bool { return isNear(i, at, reach) && reachesFrom(x, at, i) })
		if !x.Water[at] {
			land, want = land+1, 0
		}
		if got := blast.Wave(x, at, reach); got != want {
			t.Fatal(x, at, reach, got, want)
		}
		if want > 0 {
			waves++
		}
		if want == peopleWhere(x, func(int) bool { return true }) {
			all++
		}
	}
	enough(t, waves, land, all)
}
