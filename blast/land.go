package blast

import "bolide/api"

// CheckGrades reports what is wrong with grades: ErrShort, ErrFull, then ErrRange or ErrOrder, grade by grade.
func CheckGrades(l []api.Grade) api.Errno {
	if len(l) == 0 {
		return api.ErrShort
	}
	if len(l) > api.MaxGrades {
		return api.ErrFull
	}
	for i, g := range l {
		if g.Energy < 0 || g.Energy > api.MaxNum || g.Reach < 0 || g.Reach > api.MaxLand {
			return api.ErrRange
		}
		if i > 0 && (g.Energy <= l[i-1].Energy || g.Reach < l[i-1].Reach) {
			return api.ErrOrder
		}
	}
	return api.OK
}

// reachOf is Reach for valid grades.
func reachOf(l []api.Grade, energy int64) int64 {
	reach := int64(0)
	for _, g := range l {
		if g.Energy <= energy {
			reach = g.Reach
		}
	}
	return reach
}

// Reach returns how far a blow of an energy reaches; 0 if the grades are not valid.
func Reach(l []api.Grade, energy int64) int64 {
	if CheckGrades(l) != api.OK {
		return 0
	}
	return reachOf(l, energy)
}

// CheckLand reports what is wrong with a land: ErrShort, ErrFull, ErrForm, or ErrRange because of the people.
func CheckLand(x api.Land) api.Errno {
	if len(x.People) == 0 {
		return api.ErrShort
	}
	if len(x.People) > api.MaxLand {
		return api.ErrFull
	}
	if len(x.Water) != len(x.People) {
		return api.ErrForm
	}
	for _, n := range x.People {
		if n < 0 || n > api.MaxPeople {
			return api.ErrRange
		}
	}
	return api.OK
}

// isCell reports whether the land has this cell.
func isCell(x api.Land, at int) bool {
	return at >= 0 && at < len(x.People)
}

// sum returns the sum of numbers.
func sum[N int | int64](l []N) N {
	var n N
	for _, m := range l {
		n += m
	}
	return n
}

// people returns how many people are in the cells from one to another one, with both.
func people(x api.Land, from, to int) int64 {
	return sum(x.People[from : to+1 : to+1])
}

// harmOf is Harm for a valid land, a cell of it, and a reach of at least 0.
func harmOf(x api.Land, at int, reach int64) int64 {
	r := int(min(reach, api.MaxLand))
	return people(x, max(at-r, 0), min(at+r, len(x.People)-1))
}

// run returns the last cell that a wave from a cell comes to in a direction (-1 or 1): the first cell of land stops it.
func run(x api.Land, at int, reach int64, to int) int {
	for reach > 0 && x.Water[at] && isCell(x, at+to) {
		at += to
		reach--
	}
	return at
}

// waveOf is Wave for a valid land, a cell of water, and a reach of at least 0.
func waveOf(x api.Land, at int, reach int64) int64 {
	return people(x, run(x, at, reach, -1), run(x, at, reach, 1))
}

// Harm returns how many people a blow harms at a cell, with a reach; 0 if one of them is not valid.
func Harm(x api.Land, at int, reach int64) int64 {
	if CheckLand(x) != api.OK || !isCell(x, at) || reach < 0 {
		return 0
	}
	return harmOf(x, at, reach)
}

// Wave returns how many people a wave harms from a cell of water, with a reach; 0 if one of them is not valid.
func Wave(x api.Land, at int, reach int64) int64 {
	if CheckLand(x) != api.OK || !isCell(x, at) || reach < 0 || !x.Water[at] {
		return 0
	}
	return waveOf(x, at, reach)
}
