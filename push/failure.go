package push

import (
	"iter"
	"slices"

	"bolide/api"
)

// flies reports whether a mission flies if these ones failed: a reserve does only after a failure before it.
func flies(c api.Campaign, failed []int, mission int) bool {
	return !c.Missions[mission].Reserve || len(failed) > 0 && failed[0] < mission
}

// failures hands out the failure sets of a valid campaign that count, in their order.
func failures(c api.Campaign) iter.Seq[[]int] {
	return func(yield func([]int) bool) {
		// extend hands out those that begin so and have so many missions more; it reports whether more are wanted.
		var extend func(begin []int, first, more int) bool
		extend = func(begin []int, first, more int) bool {
			if more == 0 {
				return yield(begin)
			}
			for i := first; i < len(c.Missions); i++ {
				// Each set has memory of its own: a list that is clipped is copied by append.
				if flies(c, begin, i) && !extend(append(slices.Clip(begin), i), i+1, more-1) {
					return false
				}
			}
			return true
		}
		for size := range c.Fails + 1 {
			if !extend(nil, 0, size) {
				return
			}
		}
	}
}

// working returns the numbers of the missions of a valid campaign that work with a failure set, ascending.
func working(c api.Campaign, failed []int) []int {
	var l []int
	for i := range c.Missions {
		if flies(c, failed, i) && !slices.Contains(failed, i) {
			l = append(l, i)
		}
	}
	return l
}

// Failures returns the failure sets of a campaign that count, in their order.
func Failures(c api.Campaign) [][]int {
	if Check(c) != api.OK {
		return nil
	}
	return slices.Collect(failures(c))
}

// Working returns the numbers of the missions that work with a failure set, ascending; none if it does not count.
func Working(c api.Campaign, failed []int) []int {
	if Check(c) != api.OK {
		return nil
	}
	for set := range failures(c) {
		if slices.Equal(set, failed) {
			return working(c, set)
		}
	}
	return nil
}
