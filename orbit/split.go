package orbit

import (
	"slices"

	"bolide/api"
)

// width returns how far apart the ends of a valid span are.
func width(s api.Span) int64 {
	return s.Hi - s.Lo
}

// widest returns the number of the widest span, of equal ones the first one.
func (l spans) widest() int {
	best := 0
	for i := range l {
		if width(l[i]) > width(l[best]) {
			best = i
		}
	}
	return best
}

// size returns the width of the widest span of a valid box.
func size(b api.Box) int64 {
	l := spansOf(b)
	return width(l[l.widest()])
}

// Split returns both parts of a box that is cut through its widest span, and true; false if it is not valid, or a single state.
func Split(b api.Box) (api.Box, api.Box, bool) {
	if Check(b) != api.OK || size(b) == 0 {
		return api.Box{}, api.Box{}, false
	}
	low, high := spansOf(b), spansOf(b)
	i := low.widest()
	m := (low[i].Lo + low[i].Hi) >> 1 // rounded down, also below 0
	low[i].Hi, high[i].Lo = m, m+1
	return low.box(), high.box(), true
}

// Cells returns n cells of a box, or all its states if there are fewer.
func Cells(b api.Box, n int) ([]api.Box, api.Errno) {
	if e := Check(b); e != api.OK {
		return nil, e
	}
	if n < 1 || n > api.MaxCells {
		return nil, api.ErrRange
	}
	return divided([]api.Box{b}, n, size, Split), api.OK
}

// divided splits the greatest part of a list into two, in its place, again and again, until there are n parts, or the greatest one cannot be split.
func divided[T any](l []T, n int, size func(T) int64, split func(T) (T, T, bool)) []T {
	for len(l) < n {
		i := greatest(l, size)
		a, b, ok := split(l[i])
		if !ok {
			break
		}
		l = slices.Replace(l, i, i+1, a, b)
	}
	return l
}

// greatest returns the number of the part with the greatest size, of equal ones that of the first one.
func greatest[T any](l []T, size func(T) int64) int {
	var best int
	var most int64
	for i, part := range l {
		if n := size(part); i == 0 || n > most {
			best, most = i, n
		}
	}
	return best
}

// halved returns both parts of each box that can be split, and the others, each in its place.
func halved(l []api.Box) []api.Box {
	var parts []api.Box
	for _, b := range l {
		if low, high, ok := Split(b); ok {
			parts = append(parts, low, high)
		} else {
			parts = append(parts, b)
		}
	}
	return parts
}
