package watch

import (
	"cmp"
	"math/bits"
	"slices"

	"bolide/api"
	"bolide/sky"
)

// setOf returns the set of these offers: the bit i is the offer i.
func setOf(l []int) int {
	set := 0
	for _, i := range l {
		set |= 1 << i
	}
	return set
}

// listOf returns the numbers of the offers in a set, ascending.
func listOf(set int) []int {
	var l []int
	for i := range api.MaxOffers {
		if set>>i&1 == 1 {
			l = append(l, i)
		}
	}
	return l
}

// isPartOf reports whether all offers of the set a are in the set b.
func isPartOf(a, b int) bool {
	return a&^b == 0
}

// those returns the set of the offers for which something holds.
func (w watch) those(holds func(i int) bool) int {
	set := 0
	for i := range w.offers {
		if holds(i) {
			set |= 1 << i
		}
	}
	return set
}

// mixes is by which set of offers each two cells can be mixed up, and how many cells are left by sets that were asked for.
type mixes struct {
	by   [][]int
	left map[int]int
}

// mixes returns the mixes of a watch.
func (w watch) mixes() mixes {
	m := mixes{left: map[int]int{}}
	for a := range w.cells {
		var row []int
		for b := range w.cells {
			row = append(row, w.those(func(i int) bool { return areMixed(w.views[[2]int{i, a}], w.views[[2]int{i, b}]) }))
		}
		m.by = append(m.by, row)
	}
	return m
}

// most returns how many cells can be mixed up with one of them, at most, by each offer of a set.
func (m mixes) most(set int) int {
	if n, ok := m.left[set]; ok {
		return n
	}
	most := 0
	for _, row := range m.by {
		n := 0
		for _, by := range row {
			if isPartOf(set, by) {
				n++
			}
		}
		most = max(most, n)
	}
	m.left[set] = most
	return most
}

// worst returns how many cells a set of offers leaves at the worst, if at most so many of those that may fail do.
func (w watch) worst(m mixes, set, fails int) int {
	mayFail := set & w.those(func(i int) bool { return !w.offers[i].Sure })
	worst := 0
	for failed := range 1 << len(w.offers) {
		if isPartOf(failed, mayFail) && bits.OnesCount(uint(failed)) <= fails {
			worst = max(worst, m.most(set&^failed))
		}
	}
	return worst
}

// Worst returns what a choice of offers proves at the worst: how many cells may be left, at most.
func Worst(s api.Sky, d api.Drift, tick int64, set []api.Box, offers []api.Offer, chosen []int, fails int) (int, api.Errno) {
	w, e := watchOf(s, d, tick, set, offers)
	if e != api.OK {
		return 0, e
	}
	if e := checkFails(fails); e != api.OK {
		return 0, e
	}
	if e := w.checkChosen(chosen); e != api.OK {
		return 0, e
	}
	return w.worst(w.mixes(), setOf(chosen), fails), api.OK
}

// merit is what comes of a choice: how many cells it leaves at the worst, and what it costs.
type merit struct {
	left, cost int
}

// order is below 0 if a is the better merit, above 0 if b is, and 0 if they are equal.
func (a merit) order(b merit) int {
	return cmp.Or(cmp.Compare(a.left, b.left), cmp.Compare(a.cost, b.cost))
}

// choice is a list of offers, ascending, with its merit.
type choice struct {
	merit
	list []int
}

// isBetter reports whether a choice is better than another one.
func (c choice) isBetter(other choice) bool {
	n := c.order(other.merit)
	return n < 0 || n == 0 && slices.Compare(c.list, other.list) < 0
}

// cost returns what the offers of a list cost together.
func (w watch) cost(list []int) int {
	cost := 0
	for _, i := range list {
		cost += w.offers[i].Cost
	}
	return cost
}

// best returns the best choice of dark offers.
func (w watch) best(dark, budget, fails int) choice {
	m := w.mixes()
	best := choice{merit: merit{left: w.cells}} // the empty one
	for set := range 1 << len(w.offers) {
		list := listOf(set)
		cost := w.cost(list)
		if !isPartOf(set, dark) || cost > budget {
			continue
		}
		c := choice{merit: merit{left: w.worst(m, set, fails), cost: cost}, list: list}
		if c.isBetter(best) {
			best = c
		}
	}
	return best
}

// darkOffers returns the set of the offers that are dark.
func (w watch) darkOffers(world api.World, m api.Moon) int {
	return w.those(func(i int) bool { return w.looks[i].isDark(sky.At(world, m.Body, w.offers[i].Tick), m.Glare) })
}

// Best returns the best choice of offers, and how many cells it leaves at the worst.
func Best(s api.Sky, d api.Drift, tick int64, set []api.Box, offers []api.Offer, m api.Moon, budget, fails int) ([]int, int, api.Errno) {
	w, e := watchOf(s, d, tick, set, offers)
	if e != api.OK {
		return nil, 0, e
	}
	if e := checkFails(fails); e != api.OK {
		return nil, 0, e
	}
	if budget < 0 || budget > api.MaxCost {
		return nil, 0, api.ErrRange
	}
	if e := checkMoon(s.World, m); e != api.OK {
		return nil, 0, e
	}
	best := w.best(w.darkOffers(s.World, m), budget, fails)
	return best.list, best.left, api.OK
}
