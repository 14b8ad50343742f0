package sky

import "bolide/api"

// isGuess reports whether a guess is valid.
func isGuess(g api.State) bool {
	return areWithin(api.Vec{X: g.X, Y: g.Y}, api.MaxPlace) && areWithin(api.Vec{X: g.U, Y: g.V}, api.MaxSpeed)
}

// straight returns where a guess is after n ticks.
func straight(g api.State, n int64) api.Vec {
	return api.Vec{X: g.X + g.U*n, Y: g.Y + g.V*n}
}

// looksOf returns the looks of a tracklet in a valid sky, or the first error of the tracklet.
func looksOf(s api.Sky, l []api.Sight) ([]look, api.Errno) {
	if e := checkCount(len(l), 1, api.MaxSights); e != api.OK {
		return nil, e
	}
	var looks []look
	for i, x := range l {
		k, e := lookOf(s, x)
		if e != api.OK {
			return nil, e
		}
		if i > 0 && x.Tick < l[i-1].Tick {
			return nil, api.ErrOrder
		}
		looks = append(looks, k)
	}
	return looks, api.OK
}

// CheckTracklet returns the error of the sky, then the first one of a tracklet.
func CheckTracklet(s api.Sky, l []api.Sight) api.Errno {
	if e := Check(s); e != api.OK {
		return e
	}
	_, e := looksOf(s, l)
	return e
}

// checkGuesses returns the error of a list of guesses at a tick.
func checkGuesses(guesses []api.State, tick int64) api.Errno {
	if len(guesses) > api.MaxGuesses {
		return api.ErrFull
	}
	if !isTick(tick) {
		return api.ErrRange
	}
	for _, g := range guesses {
		if !isGuess(g) {
			return api.ErrRange
		}
	}
	return api.OK
}

// misses returns the numbers of the looks with which a guess at a tick does not agree.
func misses(looks []look, g api.State, tick int64) []int {
	var l []int
	for i, k := range looks {
		if !k.agrees(straight(g, k.tick-tick)) {
			l = append(l, i)
		}
	}
	return l
}

// Miss returns the number of the sight that a guess misses; -1 if there is none, -2 if an argument is not valid.
func Miss(s api.Sky, l []api.Sight, guess api.State, tick int64) int {
	if Check(s) != api.OK {
		return -2
	}
	looks, e := looksOf(s, l)
	if e != api.OK || checkGuesses([]api.State{guess}, tick) != api.OK {
		return -2
	}
	if m := misses(looks, guess, tick); len(m) > 0 {
		return m[0]
	}
	return -1
}

// Link returns the number of the first guess that misses no sight of two tracklets; or -1 and for each guess the number of the first sight that it misses, where those of b are counted on after those of a.
func Link(s api.Sky, a, b []api.Sight, guesses []api.State, tick int64) (int, []int, api.Errno) {
	looks, e := allLooks(s, [][]api.Sight{a, b})
	if e != api.OK {
		return 0, nil, e
	}
	if e := checkGuesses(guesses, tick); e != api.OK {
		return 0, nil, e
	}
	both := append(looks[0], looks[1]...)
	var reasons []int
	for i, g := range guesses {
		m := misses(both, g, tick)
		if len(m) == 0 {
			return i, nil, api.OK
		}
		reasons = append(reasons, m[0])
	}
	return -1, reasons, api.OK
}

// allLooks returns the looks of each tracklet, or the error of the sky, or the first one of a tracklet.
func allLooks(s api.Sky, l [][]api.Sight) ([][]look, api.Errno) {
	if e := Check(s); e != api.OK {
		return nil, e
	}
	var lists [][]look
	for _, sights := range l {
		looks, e := looksOf(s, sights)
		if e != api.OK {
			return nil, e
		}
		lists = append(lists, looks)
	}
	return lists, api.OK
}

// Believe returns the number of the guess with which the most sights agree, and the numbers of the sights that do not agree with it.
func Believe(s api.Sky, l []api.Sight, guesses []api.State, tick int64) (int, []int, api.Errno) {
	looks, e := allLooks(s, [][]api.Sight{l})
	if e != api.OK {
		return 0, nil, e
	}
	if e := checkGuesses(guesses, tick); e != api.OK {
		return 0, nil, e
	}
	if len(guesses) == 0 {
		return 0, nil, api.ErrMissing
	}
	i := leastOf(guesses, func(g api.State) int { return len(misses(looks[0], g, tick)) })
	return i, misses(looks[0], guesses[i], tick), api.OK
}

// leastOf returns the number of the part for which size is the least; of equal ones that of the first one.
func leastOf[T any](l []T, size func(T) int) int {
	var least, best int
	for i, part := range l {
		if n := size(part); i == 0 || n < least {
			least, best = n, i
		}
	}
	return best
}

// Groups returns which tracklets are linked, guess by guess, and then each of the others alone.
func Groups(s api.Sky, l [][]api.Sight, guesses []api.State, tick int64) ([][]int, api.Errno) {
	if e := Check(s); e != api.OK {
		return nil, e
	}
	if len(l) > api.MaxTracklets {
		return nil, api.ErrFull
	}
	looks, e := allLooks(s, l)
	if e != api.OK {
		return nil, e
	}
	if e := checkGuesses(guesses, tick); e != api.OK {
		return nil, e
	}
	return groups(looks, guesses, tick), api.OK
}

// groups is Groups for the looks of valid tracklets.
func groups(looks [][]look, guesses []api.State, tick int64) [][]int {
	var found [][]int
	grouped := make([]bool, len(looks))
	for _, g := range guesses {
		var group []int
		for i, l := range looks {
			if !grouped[i] && len(misses(l, g, tick)) == 0 {
				group = append(group, i)
			}
		}
		if len(group) < 2 {
			continue
		}
		for _, i := range group {
			grouped[i] = true
		}
		found = append(found, group)
	}
	for i := range looks {
		if !grouped[i] {
			found = append(found, []int{i})
		}
	}
	return found
}
