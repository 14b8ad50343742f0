package orbit_test

import (
	"slices"
	"testing"

	"bolide/api"
	"bolide/force"
	"bolide/orbit"
)

// moves are a world and a drift, and their error.
type moves struct {
	w api.World
	d api.Drift
	e api.Errno
}

// badMoves are worlds and drifts that are not valid.
func badMoves() map[string]moves {
	w := sunny().World
	lost, heavy, nowhere := sunny().World, sunny().World, sunny().World
	lost.Home = 2
	heavy.Bodies[1].Mu = -1
	nowhere.Bodies[1].Track[2].Y = place + 1
	light := api.Drift{Light: of(1, 0)}
	return map[string]moves{
		"no bodies": {api.World{}, light, api.ErrShort},
		"no home":   {lost, light, api.ErrMissing},
		"mu":        {heavy, light, api.ErrRange},
		"track":     {nowhere, light, api.ErrRange},
		"light":     {w, light, api.ErrOrder},
		"heat":      {w, api.Drift{Heat: of(5, 4)}, api.ErrOrder},
		"gas":       {w, api.Drift{Gas: -1}, api.ErrRange},
	}
}

// heavier returns a world with one body at (0, 0).
func heavier(mu int64) api.World {
	return api.World{Bodies: []api.Body{{Mu: mu, Track: []api.Vec{at(0, 0)}}}}
}

func TestP4_2Possible(t *testing.T) {
	w, d, s := world(), drift(), state(0, 0, 5, 0)
	sun := sunny().World
	heavy := heavier(1 << 22) // pulls with MaxPull, 2 to the power 20, from (1, 0) and (-1, 0)
	for _, c := range []struct {
		w       api.World
		d       api.Drift
		tick    int64
		s, next api.State
		ok      bool
	}{
		{w, d, 0, s, state(6, -1, 6, -1), true}, {w, d, 0, s, state(6, -1, 6, 1), false}, {w, d, 0, s, state(7, 0, 7, 0), false},
		{w, d, 0, s, state(4, 1, 4, 1), true}, {w, d, 0, s, state(5, 0, 5, 0), true}, {w, d, 0, s, state(3, 0, 3, 0), false},
		{w, d, 0, s, state(5, 2, 5, 2), false}, {w, d, 0, s, state(5, -2, 5, -2), false}, {w, d, 0, s, state(5, -1, 5, -1), true},
		{w, d, 0, s, state(6, 0, 5, 0), false}, {w, d, 0, s, state(5, 0, 6, 0), false}, {w, d, 0, s, state(5, 1, 5, 0), false}, {w, d, 0, s, state(5, 0, 5, 1), false},
		{w, d, 0, s, s, false}, {w, api.Drift{}, 0, s, state(5, 0, 5, 0), true}, {w, api.Drift{}, 0, s, state(6, 0, 6, 0), false},
		// Ticks.
		{w, d, end - 1, s, state(5, 0, 5, 0), true}, {w, d, end, s, state(5, 0, 5, 0), false}, {w, d, end + 1, s, state(5, 0, 5, 0), false},
		{w, d, -1, s, state(5, 0, 5, 0), false}, {w, d, least, s, state(5, 0, 5, 0), false}, {w, d, most, s, state(5, 0, 5, 0), false},
		// The limits: a state that moves on out of them has no valid successor.
		{w, d, 0, state(place-5, 0, 5, 0), state(place, 0, 5, 0), true}, {w, d, 0, state(place-5, 0, 5, 0), state(place+1, 0, 6, 0), false},
		{w, d, 0, state(0, 5-place, 0, -5), state(0, -place, 0, -5), true}, {w, d, 0, state(0, 5-place, 0, -5), state(0, -place-1, 0, -6), false},
		{w, d, 0, state(0, 0, speed-1, 0), state(speed, 0, speed, 0), true}, {w, d, 0, state(0, 0, speed, 0), state(speed+1, 0, speed+1, 0), false},
		{w, d, 0, state(0, 0, 0, -speed), state(0, -speed-1, 0, -speed-1), false}, {w, d, 0, state(place+1, 0, -1, 0), state(place, 0, -1, 0), false},
		{w, d, 0, state(0, 0, speed+1, 0), state(speed, 0, speed, 0), false}, {w, d, 0, state(0, 0, 0, most), state(0, most, 0, most), false},
		{w, d, 0, state(most, 0, 1, 0), state(least, 0, 1, 0), false}, {w, d, 0, state(0, 0, 0, least), state(0, least, 0, least), false},
		{w, d, 0, state(-place-1, 0, 1, 0), state(-place, 0, 1, 0), false},
		{heavy, api.Drift{}, 0, state(1, 0, speed, 0), state(1, 0, 0, 0), true}, {heavy, api.Drift{}, 0, state(-1, 0, -speed, 0), state(-1, 0, 0, 0), true},
		{heavy, api.Drift{}, 0, state(1, 0, -1, 0), state(-speed, 0, -speed-1, 0), false},
		// The pull is that of the tick: -396 at 0, -401 to -400 and 0 to 1 at 1.
		{sun, api.Drift{}, 0, state(50, 0, 400, 0), state(54, 0, 4, 0), true}, {sun, api.Drift{}, 0, state(50, 0, 400, 0), state(49, 0, -1, 0), false},
		{sun, api.Drift{}, 1, state(50, 0, 400, 0), state(49, 0, -1, 0), true}, {sun, api.Drift{}, 1, state(50, 0, 400, 0), state(50, 1, 0, 1), true},
		{sun, api.Drift{}, 1, state(50, 0, 400, 0), state(48, 0, -2, 0), false}, {sun, api.Drift{}, 1, state(50, 0, 400, 0), state(50, -1, 0, -1), false},
	} {
		if ok := orbit.Possible(c.w, c.d, c.tick, c.s, c.next); ok != c.ok {
			t.Error(c.tick, c.s, c.next, ok)
		}
	}
	for name, c := range badMoves() {
		if orbit.Possible(c.w, c.d, 0, state(1000, 0, 5, 0), state(1005, 0, 5, 0)) {
			t.Error(name)
		}
	}
}

// TestP4_2PossibleFormula holds Possible against the chapter's words, written anew.
func TestP4_2PossibleFormula(t *testing.T) {
	draw := draw(46)
	count := map[bool]int{}
	for range 60000 {
		w, d, tick, s := draw.world(8, 12), draw.drift(), draw.below(9), draw.state(box(-12, 12, -12, 12, -9, 9, -9, 9))
		pulls, _ := force.Pull(w, d, tick, at(s.X, s.Y))
		a, b := draw.in(of(pulls.X.Lo-1, pulls.X.Hi+1)), draw.in(of(pulls.Y.Lo-1, pulls.Y.Hi+1))
		next := state(s.X+s.U+a, s.Y+s.V+b, s.U+a, s.V+b)
		switch draw.below(12) {
		case 0:
			next.X++
		case 1:
			next.Y--
		}
		want := isState(next) && pulls.X.Lo <= a && a <= pulls.X.Hi && pulls.Y.Lo <= b && b <= pulls.Y.Hi && next.X == s.X+next.U && next.Y == s.Y+next.V
		if ok := orbit.Possible(w, d, tick, s, next); ok != want {
			t.Fatal(w, d, tick, s, next, ok)
		}
		count[want]++
	}
	if count[true] < 5000 || count[false] < 5000 {
		t.Error("too few cases", count)
	}
}

func TestP4_2Truth(t *testing.T) {
	w, d := world(), drift()
	a, b := state(0, 0, 5, 0), state(6, -1, 6, -1)
	far := state(place+1, 0, 0, 0)
	for name, c := range map[string]struct {
		tick int64
		l    []api.State
		want int
	}{
		"the example":      {0, []api.State{a, b, state(12, 0, 6, 2)}, 2},
		"a truth":          {0, []api.State{a, b, state(12, -1, 6, 0)}, -1},
		"two":              {0, []api.State{a, b}, -1},
		"one":              {0, []api.State{a}, -1},
		"none":             {0, nil, -1},
		"empty":            {0, []api.State{}, -1},
		"not valid":        {0, []api.State{far}, 0},
		"the last one":     {0, []api.State{a, b, far}, 2},
		"not possible":     {0, []api.State{a, a, far}, 1},
		"the first one":    {0, []api.State{far, a, a}, 0},
		"at the end":       {end, []api.State{a}, -1},
		"up to the end":    {end - 1, []api.State{a, b}, -1},
		"three to the end": {end - 2, []api.State{a, b, state(12, 0, 6, 2)}, 2},
		"beyond the end":   {end, []api.State{a, b}, 0},
		"two beyond":       {end - 1, []api.State{a, b, state(12, -1, 6, 0)}, 0},
		"none at the end":  {end, nil, -1},
		"none beyond":      {end + 1, nil, 0},
		"none before":      {-1, nil, 0},
		"before":           {-1, []api.State{a}, 0},
		"long before":      {least, []api.State{a, a}, 0},
		"long after":       {most, []api.State{a, b}, 0},
		"none long after":  {most, nil, 0},
	} {
		if n := orbit.Truth(w, d, c.tick, c.l); n != c.want {
			t.Error(name, n)
		}
	}
	for name, c := range badMoves() {
		for _, l := range [][]api.State{nil, {a}, {a, b}} {
			if n := orbit.Truth(c.w, c.d, 0, l); n != 0 {
				t.Error(name, l, n)
			}
		}
	}
	// The state number i is at the tick tick + i.
	sun := sunny().World
	l := []api.State{state(50, 0, 400, 0), state(54, 0, 4, 0)}
	for tick, want := range map[int64]int{0: -1, 1: 1, 2: 1, 3: -1, end - 1: -1} {
		if n := orbit.Truth(sun, api.Drift{}, tick, l); n != want {
			t.Error(tick, n)
		}
	}
}

// TestP4_2TruthFormula makes truths, and breaks them.
func TestP4_2TruthFormula(t *testing.T) {
	draw := draw(47)
	count := map[bool]int{}
	for range 3000 {
		w, d, tick := draw.world(16, 200), draw.drift(), draw.below(9)
		l := []api.State{draw.state(box(-200, 200, -200, 200, -20, 20, -20, 20))}
		for len(l) < 8 {
			next, ok := draw.successor(w, d, tick+int64(len(l))-1, l[len(l)-1])
			if !ok {
				t.Fatal("beyond the limits", next)
			}
			l = append(l, next)
		}
		if n := orbit.Truth(w, d, tick, l); n != -1 {
			t.Fatal(w, d, tick, l, n)
		}
		l[draw.below(8)].U += draw.upTo(4)
		want := -1
		for i := range l {
			if i > 0 && !orbit.Possible(w, d, tick+int64(i)-1, l[i-1], l[i]) {
				want = i
				break
			}
		}
		if n := orbit.Truth(w, d, tick, l); n != want {
			t.Fatal(w, d, tick, l, n, want)
		}
		count[want < 0]++
	}
	if count[true] < 200 || count[false] < 200 {
		t.Error("too few cases", count)
	}
}

func TestP4_3Step(t *testing.T) {
	w, sun := world(), sunny().World
	for name, c := range map[string]struct {
		w    api.World
		d    api.Drift
		tick int64
		b    api.Box
		want api.Box
	}{
		"the example":     {w, drift(), 0, example(), box(4, 16, -3, 4, 4, 6, -3, 1)},
		"the last tick":   {w, drift(), end - 1, example(), box(4, 16, -3, 4, 4, 6, -3, 1)},
		"nothing pulls":   {w, api.Drift{}, 0, example(), box(5, 15, -2, 3, 5, 5, -2, 0)},
		"the sun":         {sun, api.Drift{}, 0, alone(state(50, 0, 400, 7)), alone(state(54, 7, 4, 7))},
		"the next tick":   {sun, api.Drift{}, 1, alone(state(50, 0, 400, 7)), box(49, 50, 7, 8, -1, 0, 7, 8)},
		"heat and light":  {sun, api.Drift{Light: of(0, 100), Heat: of(-10, 10), Gas: 1}, 0, alone(state(50, 0, 0, 0)), box(-347, -305, -5, 5, -397, -355, -5, 5)},
		"an area":         {heavier(1000000), api.Drift{}, 0, box(40, 50, 0, 0, 0, 0, 0, 0), box(-742, -270, 0, 0, -782, -320, 0, 0)},
		"up to the place": {w, drift(), 0, box(3, place-1, -place+1, 0, 0, 0, 0, 0), box(2, place, -place, 1, -1, 1, -1, 1)},
		"up to the speed": {w, drift(), 0, box(0, 0, 0, 0, -speed+1, speed-1, -speed+1, speed-1), box(-speed, speed, -speed, speed, -speed, speed, -speed, speed)},
	} {
		if b, e := orbit.Step(c.w, c.d, c.tick, c.b); b != c.want || e != api.OK {
			t.Error(name, b, e)
		}
	}
}

// overs are boxes whose steps are just beyond the limits in the world and with the drift of the examples.
func overs() []api.Box {
	return boxes(
		box(0, place, 0, 0, 0, 0, 0, 0), box(-place, 0, 0, 0, 0, 0, 0, 0), box(0, 0, 0, place, 0, 0, 0, 0), box(0, 0, -place, 0, 0, 0, 0, 0),
		box(0, 0, 0, 0, 0, speed, 0, 0), box(0, 0, 0, 0, -speed, 0, 0, 0), box(0, 0, 0, 0, 0, 0, 0, speed), box(0, 0, 0, 0, 0, 0, -speed, 0),
		alone(state(place-7, 0, 7, 0)), alone(state(0, 7-place, 0, -7)), box(-place, place, -place, place, -speed, speed, -speed, speed),
	)
}

func TestP4_3StepErrors(t *testing.T) {
	bad := box(1, 0, 0, 0, 0, 0, 0, 0)
	for name, c := range badMoves() {
		if b, e := orbit.Step(c.w, c.d, -1, bad); b != (api.Box{}) || e != c.e {
			t.Error(name, b, e)
		}
		if b, e := orbit.Step(c.w, c.d, 0, example()); b != (api.Box{}) || e != c.e {
			t.Error(name, b, e)
		}
	}
	w, d := world(), drift()
	for _, tick := range []int64{-1, end, end + 1, least, most} {
		if b, e := orbit.Step(w, d, tick, example()); b != (api.Box{}) || e != api.ErrRange {
			t.Error(tick, b, e)
		}
		if b, e := orbit.Step(w, d, tick, overs()[0]); b != (api.Box{}) || e != api.ErrRange {
			t.Error("the tick first", tick, b, e)
		}
	}
	for _, c := range badBoxes() {
		if b, e := orbit.Step(w, d, 0, c); b != (api.Box{}) || e != api.ErrRange {
			t.Error(c, b, e)
		}
	}
	for _, c := range overs() {
		if b, e := orbit.Step(w, d, 0, c); b != (api.Box{}) || e != api.ErrOver {
			t.Error(c, b, e)
		}
	}
	eight := api.World{}
	for range 8 {
		eight.Bodies = append(eight.Bodies, api.Body{Mu: api.MaxMu, Track: []api.Vec{at(0, 0)}})
	}
	if b, e := orbit.Step(eight, d, 0, alone(state(1, 0, speed, 0))); b != (api.Box{}) || e != api.ErrOver {
		t.Error("the strongest pull", b, e)
	}
}

// TestP4_3StepFormula holds Step against the chapter's words, written anew.
func TestP4_3StepFormula(t *testing.T) {
	draw := draw(48)
	count := map[bool]int{}
	for range 40000 {
		far := []int64{5, 100, place}[draw.below(3)]
		w, d, tick, b := draw.world(50, far), draw.drift(), draw.below(9), draw.box(far, min(far, speed))
		for i := range w.Bodies {
			w.Bodies[i].Radius = min(w.Bodies[i].Radius, api.MaxRadius)
		}
		want, ok := stepOf(w, d, tick, b)
		got, e := orbit.Step(w, d, tick, b)
		if ok && (got != want || e != api.OK) || !ok && (got != (api.Box{}) || e != api.ErrOver) {
			t.Fatal(w, d, tick, b, got, e)
		}
		count[ok]++
	}
	if count[true] < 5000 || count[false] < 500 {
		t.Error("too few cases", count)
	}
}

func TestP4_3PropagateErrors(t *testing.T) {
	w, d, bad := world(), drift(), badBoxes()[0]
	for name, c := range badMoves() {
		if l, e := orbit.Propagate(c.w, c.d, -1, boxes(bad), -1); len(l) > 0 || e != c.e {
			t.Error(name, l, e)
		}
		if l, e := orbit.Propagate(c.w, c.d, 0, nil, 0); len(l) > 0 || e != c.e {
			t.Error("nothing to do", name, l, e)
		}
	}
	for name, c := range map[string]struct {
		tick  int64
		ticks int
		l     []api.Box
		e     api.Errno
	}{
		"fine":              {0, 3, boxes(example()), api.OK},
		"no ticks":          {0, 0, boxes(example()), api.OK},
		"400":               {0, 400, boxes(alone(api.State{})), api.OK},
		"401":               {0, 401, boxes(alone(api.State{})), api.ErrRange},
		"-1 ticks":          {0, -1, boxes(example()), api.ErrRange},
		"most ticks":        {0, int(most), boxes(example()), api.ErrRange},
		"least ticks":       {0, int(least), boxes(example()), api.ErrRange},
		"tick -1":           {-1, 0, boxes(example()), api.ErrRange},
		"tick -1, 5 ticks":  {-1, 5, boxes(example()), api.ErrRange},
		"the end":           {end, 0, boxes(example()), api.OK},
		"beyond the end":    {end + 1, 0, boxes(example()), api.ErrRange},
		"to the end":        {end - 3, 3, boxes(example()), api.OK},
		"past the end":      {end - 2, 3, boxes(example()), api.ErrRange},
		"most":              {most, 400, boxes(example()), api.ErrRange},
		"least":             {least, 400, boxes(example()), api.ErrRange},
		"ticks first":       {0, 401, many(513), api.ErrRange},
		"full":              {0, 0, many(513), api.ErrFull},
		"full first":        {0, 1, append(many(512), bad), api.ErrFull},
		"bad":               {0, 0, boxes(example(), bad), api.ErrRange},
		"bad before over":   {0, 1, append(overs(), bad), api.ErrRange},
		"over":              {0, 1, overs()[:1], api.ErrOver},
		"the second over":   {0, 1, boxes(example(), overs()[3]), api.ErrOver},
		"over, but not yet": {0, 0, overs(), api.OK},
		"over at last":      {0, 2, boxes(alone(state(place-2, 0, 0, 0))), api.ErrOver},
		"not yet over":      {0, 1, boxes(alone(state(place-2, 0, 0, 0))), api.OK},
		"just within":       {0, 2, boxes(alone(state(place-3, 0, 0, 0))), api.OK},
		"an empty set":      {0, 400, nil, api.OK},
	} {
		l, e := orbit.Propagate(w, d, c.tick, c.l, c.ticks)
		if e != c.e || e != api.OK && len(l) > 0 || e == api.OK && len(l) != len(c.l) {
			t.Error(name, l, e)
		}
	}
}

func TestP4_3Propagate(t *testing.T) {
	w, d := world(), drift()
	b := box(0, 10, 0, 3, 5, 5, -2, 0)
	for ticks, want := range map[int]api.Box{
		0: b, 1: box(4, 16, -3, 4, 4, 6, -3, 1), 2: box(7, 23, -7, 6, 3, 7, -4, 2), 3: box(9, 31, -12, 9, 2, 8, -5, 3),
	} {
		l, e := orbit.Propagate(w, d, 7, boxes(b, alone(state(1, 1, 1, 1)), b), ticks)
		if e != api.OK || len(l) != 3 || l[0] != want || l[2] != want || l[1].U != of(1-int64(ticks), 1+int64(ticks)) {
			t.Error(ticks, l, e)
		}
	}
	if l, e := orbit.Propagate(w, api.Drift{}, 0, boxes(alone(state(0, 0, 3, -4))), 400); !slices.Equal(l, boxes(alone(state(1200, -1600, 3, -4)))) || e != api.OK {
		t.Error("400", l, e)
	}
}

// TestP4_3PropagateFormula holds Propagate against single steps, computed anew, in worlds that move.
func TestP4_3PropagateFormula(t *testing.T) {
	draw := draw(49)
	count := map[api.Errno]int{}
	for range 4000 {
		far := []int64{60, 400, 1 << 19}[draw.below(3)]
		w, d, tick, l, ticks := draw.world(40, far), draw.drift(), draw.below(9), draw.boxes(5, far, far), int(draw.below(9))
		want, e := updateOf(api.Sky{World: w}, d, tick, l, ticks, nil)
		if got, f := orbit.Propagate(w, d, tick, l, ticks); !slices.Equal(got, want) || f != e {
			t.Fatal(w, d, tick, l, ticks, got, f)
		}
		count[e]++
	}
	if count[api.OK] < 1000 || count[api.ErrOver] < 500 {
		t.Error("too few cases", count)
	}
}
