package council_test

import (
	"slices"
	"testing"

	"bolide/api"
	"bolide/council"
)

// known are the facts 9 at level 1 and 5 at level 2, at the ticks 1 and 2.
func known() []api.Item { return items(fact(1, 9, at(1)), fact(2, 5, at(2))) }

// moved are these facts, and the motion 0 on 9 with the act 7, opened at 4.
func moved() []api.Item { return append(known(), move(4, 9, 7)) }

// voted has the vote of 1 for it besides, at 6.
func voted() []api.Item { return append(moved(), vote(6, 0, 1, true)) }

// then puts items behind others.
func then(l []api.Item, more ...api.Item) []api.Item { return slices.Concat(l, more) }

// after is the house after items, in the chapter's words.
func after(c api.Council, l []api.Item) api.House {
	h, _, _ := steps(c, api.House{}, l)
	return h
}

// fails expects an error of the last one of some items, and the house that was before it.
func fails(t *testing.T, name string, l []api.Item, want api.Errno) {
	t.Helper()
	last := len(l) - 1
	before := after(lawful(), l[:last])
	h, n, e := council.Build(lawful(), l)
	if n != last || e != want || !equal(h, before) {
		t.Error(name, h, n, e)
	}
	// Behind the first error nothing is done.
	h, n, e = council.Build(lawful(), then(l, fact(end, 1, at(2)), api.Item{}))
	if n != last || e != want || !equal(h, before) {
		t.Error(name, "with more behind", h, n, e)
	}
}

// goes expects no error of some items, and returns the house.
func goes(t *testing.T, name string, l []api.Item) api.House {
	t.Helper()
	h, n, e := council.Build(lawful(), l)
	if n != -1 || e != api.OK || !equal(h, after(lawful(), l)) {
		t.Error(name, h, n, e)
	}
	return h
}

func TestP9_2Arguments(t *testing.T) {
	for name, x := range faultyCouncils() {
		for _, l := range [][]api.Item{nil, known(), make([]api.Item, 2001)} {
			if h, n, e := council.Build(x.c, l); e != x.want || n != -1 || !equal(h, api.House{}) {
				t.Error(name, h, n, e)
			}
		}
	}
	full := slices.Repeat(items(fact(3, 9, at(1))), 2000)
	if h := goes(t, "full", full); h.Real.Items != 2000 || h.Real.Facts[0].Item != 1999 || len(h.Real.Sent) != 1 {
		t.Error(h)
	}
	for _, l := range [][]api.Item{then(full, full[0]), make([]api.Item, 2001)} {
		if h, n, e := council.Build(lawful(), l); e != api.ErrFull || n != -1 || !equal(h, api.House{}) {
			t.Error(h, n, e)
		}
	}
	for _, l := range [][]api.Item{nil, items()} {
		if h := goes(t, "no items", l); !equal(h, api.House{}) {
			t.Error(h)
		}
	}
}

// TestP9_2AllKinds has the errors that all kinds of items may have; they come before those of the kinds.
func TestP9_2AllKinds(t *testing.T) {
	for name, x := range map[string]struct {
		x    api.Item
		want api.Errno
	}{
		"tick below 0":           {api.Item{Tick: -1}, api.ErrRange},
		"least tick":             {api.Item{Tick: least}, api.ErrRange},
		"tick beyond":            {api.Item{Tick: end + 1}, api.ErrRange},
		"greatest tick":          {api.Item{Tick: most, Kind: api.ItemFact}, api.ErrRange},
		"earlier":                {api.Item{Tick: 5}, api.ErrOrder},
		"earlier fact":           {fact(5, 0, at(1)), api.ErrOrder},
		"earlier exercise":       {drill(fact(5, 9, at(1))), api.ErrOrder},
		"no kind":                {api.Item{Tick: 6}, api.ErrKind},
		"kind 5":                 {api.Item{Tick: 6, Kind: 5}, api.ErrKind},
		"kind below 0":           {api.Item{Tick: 6, Kind: -1}, api.ErrKind},
		"no kind as an exercise": {api.Item{Tick: 6, Drill: true}, api.ErrKind},
	} {
		fails(t, name, then(voted(), x.x), x.want)
	}
	h := goes(t, "last tick", then(voted(), fact(end, 9, at(2)), drill(fact(end, 9, at(1)))))
	if h.Tick != end || h.Real.Items != 5 || h.Drill.Items != 1 {
		t.Error(h)
	}
	if h := goes(t, "first tick", items(fact(0, 1, at(0)))); h.Tick != 0 || h.Real.Items != 1 {
		t.Error(h)
	}
}

func TestP9_2Fact(t *testing.T) {
	for _, n := range []int{0, -1, 1000, int(most), int(least)} {
		fails(t, "target", then(known(), fact(2, n, api.Chance{})), api.ErrRange)
		fails(t, "target", then(known(), fact(2, n, at(1))), api.ErrRange)
	}
	for _, x := range faultyChances() {
		fails(t, "chance", then(known(), fact(2, 9, x)), api.ErrForm)
		fails(t, "chance", items(drill(fact(2, 9, x))), api.ErrForm)
	}
	h := goes(t, "facts", items(fact(1, 999, at(1)), drill(fact(1, 4, at(2))), fact(2, 1, at(0)), fact(3, 500, at(2)), fact(4, 999, chance(1, 2, 1000))))
	want := []api.Known{{Target: 1, Item: 1, Chance: at(0)}, {Target: 500, Level: 2, Item: 2, Chance: at(2)}, {Target: 999, Level: 1, Item: 3, Chance: chance(1, 2, 1000)}}
	if h.Tick != 4 || h.Real.Items != 4 || h.Drill.Items != 1 || !slices.Equal(h.Real.Facts, want) {
		t.Error(h)
	}
	if !slices.Equal(h.Drill.Facts, []api.Known{{Target: 4, Level: 2, Chance: at(2)}}) {
		t.Error(h.Drill)
	}
	if len(h.Real.Motions) != 0 || len(h.Drill.Motions) != 0 {
		t.Error("motions", h)
	}
}

// TestP9_2Alarms sends alarms where a level changes, and nowhere else.
func TestP9_2Alarms(t *testing.T) {
	h := goes(t, "alarms", items(
		fact(1, 9, at(0)), fact(2, 9, at(2)), fact(3, 9, chance(7, 200, 1000)), fact(4, 9, at(1)), fact(4, 5, at(1)), drill(fact(4, 9, at(1))), fact(5, 9, at(0)), fact(6, 9, at(0)), drill(fact(6, 9, at(2))), fact(7, 9, at(1)),
	))
	real := []api.Alarm{alarm(2, 9, 2, false), alarm(4, 9, 1, true), alarm(4, 5, 1, false), alarm(5, 9, 0, true), alarm(7, 9, 1, false)}
	if !slices.Equal(h.Real.Sent, real) || !slices.Equal(h.Drill.Sent, []api.Alarm{alarm(4, 9, 1, false), alarm(6, 9, 2, false)}) {
		t.Error(h)
	}
}

// states are the states of motions.
func states(l []api.Motion) []int {
	var states []int
	for _, m := range l {
		states = append(states, m.State)
	}
	return states
}

// TestP9_2Void ends motions whose laws have a greater level than what is now known of their target.
func TestP9_2Void(t *testing.T) {
	begin := items(
		drill(fact(1, 9, at(2))), fact(1, 9, at(2)), fact(1, 5, at(2)),
		move(2, 9, 5), move(2, 9, 7), move(2, 9, 8), move(2, 5, 8), drill(move(2, 9, 8)), vote(2, 1, 2, true),
	)
	h := goes(t, "lower", then(begin, fact(3, 9, at(1))))
	if l := h.Real.Motions; !slices.Equal(states(l), []int{1, 1, 4, 1}) || l[2].Fact != 7 || l[1].Fact != -1 || l[3].Fact != -1 || h.Drill.Motions[0].State != api.MotionOpen {
		t.Error(h)
	}
	h = goes(t, "to 0", then(begin, fact(3, 9, at(0))))
	if l := h.Real.Motions; !slices.Equal(states(l), []int{1, 4, 4, 1}) || l[1].Fact != 7 || l[1].Yes != 30 || !slices.Equal(l[1].Voted, []int{2}) {
		t.Error(h)
	}
	h = goes(t, "twice", then(begin, fact(3, 9, at(1)), fact(4, 9, at(0))))
	if l := h.Real.Motions; l[2].Fact != 7 || l[1].Fact != 8 {
		t.Error(h)
	}
	h = goes(t, "as high", then(begin, fact(3, 9, chance(1, 900, 1000))))
	if l := h.Real.Motions; !slices.Equal(states(l), []int{1, 1, 1, 1}) {
		t.Error(h)
	}
	h = goes(t, "exercise", then(begin, drill(fact(3, 9, at(0)))))
	if l := h.Real.Motions; !slices.Equal(states(l), []int{1, 1, 1, 1}) || h.Drill.Motions[0].State != api.MotionVoid || h.Drill.Motions[0].Fact != 2 {
		t.Error(h)
	}
	h = goes(t, "closed before", then(begin, closed(3, 2), fact(4, 9, at(0))))
	if l := h.Real.Motions; l[2].State != api.MotionFailed || l[2].Fact != 0 {
		t.Error(h)
	}
}

func TestP9_2Motion(t *testing.T) {
	open := then(known(), move(3, 9, 7))
	for name, x := range map[string]struct {
		l    []api.Item
		want api.Errno
	}{
		"no law":                    {then(known(), move(3, 9, 6)), api.ErrMissing},
		"no law for 0":              {then(known(), move(3, 9, 0)), api.ErrMissing},
		"not known":                 {then(known(), move(3, 8, 7)), api.ErrMissing},
		"not known, at level 0":     {then(known(), move(3, 8, 5)), api.ErrMissing},
		"no target":                 {then(known(), move(3, 0, 5)), api.ErrMissing},
		"wild":                      {then(known(), move(3, int(most), int(least))), api.ErrMissing},
		"not known in the exercise": {then(known(), drill(move(3, 9, 7))), api.ErrMissing},
		"known in an exercise":      {then(drills(known()...), move(3, 9, 7)), api.ErrMissing},
		"lower":                     {then(known(), move(3, 9, 8)), api.ErrState},
		"lower now":                 {then(known(), fact(3, 9, at(0)), move(3, 9, 7)), api.ErrState},
		"lower in the exercise":     {then(known(), drill(fact(3, 9, at(0))), drill(move(3, 9, 7))), api.ErrState},
		"open":                      {then(open, move(4, 9, 7)), api.ErrExists},
		"open for long":             {then(open, move(400, 9, 7)), api.ErrExists},
		"first of two":              {then(open, move(4, 9, 5), move(5, 9, 7)), api.ErrExists},
	} {
		fails(t, name, x.l, x.want)
	}
	h := goes(t, "motions", then(open, move(4, 9, 5), move(5, 5, 7), move(5, 5, 8), drill(fact(5, 9, at(1))), drill(move(6, 9, 7))))
	want := []api.Motion{{Target: 9, Act: 7, Opened: 3}, {Target: 9, Act: 5, Opened: 4}, {Target: 5, Act: 7, Opened: 5}, {Target: 5, Act: 8, Opened: 5}}
	for i, m := range want {
		m.State, m.Fact = api.MotionOpen, -1
		if !slices.Equal(numbers(h.Real.Motions[i]), numbers(m)) || len(h.Real.Motions[i].Voted) != 0 {
			t.Error(h.Real.Motions[i])
		}
	}
	if len(h.Real.Motions) != 4 || len(h.Drill.Motions) != 1 || h.Tick != 6 {
		t.Error(h)
	}
	for name, l := range map[string][]api.Item{
		"after one that failed":  then(open, closed(14, 0), move(14, 9, 7)),
		"after one that passed":  then(open, vote(4, 0, 1, true), vote(4, 0, 2, true), closed(14, 0), move(14, 9, 7)),
		"after one that is void": then(open, fact(4, 9, at(0)), fact(5, 9, at(1)), move(6, 9, 7)),
	} {
		if h := goes(t, name, l); len(h.Real.Motions) != 2 || h.Real.Motions[1].State != api.MotionOpen || h.Real.Motions[0].State == api.MotionOpen {
			t.Error(name, h)
		}
	}
}

// manyMotions are 64 open motions, on the targets 1 to 64.
func manyMotions() []api.Item {
	var l []api.Item
	for n := range 64 {
		l = append(l, fact(1, n+1, at(1)))
	}
	for n := range 64 {
		l = append(l, move(1, n+1, 7))
	}
	return l
}

func TestP9_2Full(t *testing.T) {
	l := manyMotions()
	if h := goes(t, "64", l); len(h.Real.Motions) != 64 {
		t.Error(len(h.Real.Motions))
	}
	fails(t, "one more", then(l, move(1, 1, 5)), api.ErrFull)
	fails(t, "none open", then(l, fact(1, 1, at(0)), fact(1, 1, at(1)), move(1, 1, 7)), api.ErrFull)
	fails(t, "exists", then(l, move(1, 1, 7)), api.ErrExists)
	fails(t, "lower", then(l, move(1, 1, 8)), api.ErrState)
	fails(t, "missing", then(l, move(1, 65, 7)), api.ErrMissing)
	fails(t, "exercises", then(drills(l...), drill(move(1, 1, 5))), api.ErrFull)
	if h := goes(t, "both", then(manyMotions(), drills(manyMotions()...)...)); len(h.Real.Motions) != 64 || len(h.Drill.Motions) != 64 {
		t.Error(h)
	}
	goes(t, "the last one", then(manyMotions(), vote(11, 63, 1, true), closed(12, 63)))
}

func TestP9_2Vote(t *testing.T) {
	void := then(voted(), fact(7, 9, at(0)))
	for name, x := range map[string]struct {
		l    []api.Item
		want api.Errno
	}{
		"as an exercise":        {then(voted(), drill(vote(7, 0, 2, true))), api.ErrExercise},
		"no member, exercise":   {then(voted(), drill(vote(7, 0, 4, true))), api.ErrExercise},
		"of an exercise":        {then(drills(voted()...), vote(7, 0, 2, true)), api.ErrExercise},
		"second of an exercise": {then(voted(), drills(then(voted(), move(6, 5, 7))[4:]...)...), api.ErrMissing},
		"neither has it":        {then(voted(), vote(7, 1, 2, true)), api.ErrMissing},
		"neither, exercise":     {then(voted(), drill(vote(7, 1, 2, true))), api.ErrMissing},
		"below 0":               {then(voted(), vote(7, -1, 2, true)), api.ErrMissing},
		"wild":                  {then(voted(), vote(7, int(least), int(most), true)), api.ErrMissing},
		"no motions":            {then(known(), vote(7, 0, 1, true)), api.ErrMissing},
		"no member":             {then(voted(), vote(7, 0, 4, true)), api.ErrMissing},
		"no member 0":           {then(voted(), vote(7, 0, 0, true)), api.ErrMissing},
		"no member, void":       {then(void, vote(7, 0, 4, true)), api.ErrMissing},
		"void":                  {then(void, vote(7, 0, 2, true)), api.ErrState},
		"void, voted, late":     {then(void, vote(70, 0, 1, true)), api.ErrState},
		"failed":                {then(voted(), closed(15, 0), vote(15, 0, 1, true)), api.ErrState},
		"passed":                {then(voted(), vote(6, 0, 2, true), closed(15, 0), vote(15, 0, 3, true)), api.ErrState},
		"voted":                 {then(voted(), vote(7, 0, 1, true)), api.ErrExists},
		"voted otherwise":       {then(voted(), vote(7, 0, 1, false)), api.ErrExists},
		"voted, late":           {then(voted(), vote(15, 0, 1, true)), api.ErrExists},
		"voted before":          {then(voted(), vote(7, 0, 2, true), vote(7, 0, 1, true)), api.ErrExists},
		"late":                  {then(voted(), vote(15, 0, 2, true)), api.ErrLate},
		"late without a window": {then(known(), move(4, 5, 8), vote(5, 0, 2, true)), api.ErrLate},
		"last tick":             {then(known(), move(4, 5, 8), vote(end, 0, 2, true)), api.ErrLate},
	} {
		fails(t, name, x.l, x.want)
	}
	h := goes(t, "votes", then(voted(), vote(6, 0, 3, false), drill(fact(7, 9, at(1))), drill(move(7, 9, 7)), drill(vote(8, 0, 3, true)), vote(14, 0, 2, true)))
	m := h.Real.Motions[0]
	if m.Yes != 80 || m.No != 20 || !slices.Equal(m.Voted, []int{1, 3, 2}) || m.State != api.MotionOpen || m.Fact != -1 {
		t.Error(m)
	}
	if m := h.Drill.Motions[0]; m.Yes != 20 || m.No != 0 || !slices.Equal(m.Voted, []int{3}) {
		t.Error(m)
	}
	h = goes(t, "at once", then(known(), move(4, 5, 8), vote(4, 0, 2, false)))
	if m := h.Real.Motions[0]; m.No != 30 || m.Yes != 0 {
		t.Error(m)
	}
}

func TestP9_2Close(t *testing.T) {
	all := then(voted(), vote(6, 0, 2, false), vote(6, 0, 3, true))
	for name, x := range map[string]struct {
		l    []api.Item
		want api.Errno
	}{
		"as an exercise":    {then(voted(), drill(closed(15, 0))), api.ErrExercise},
		"of an exercise":    {then(drills(voted()...), closed(15, 0)), api.ErrExercise},
		"early exercise":    {then(voted(), drill(closed(7, 0))), api.ErrExercise},
		"neither has it":    {then(voted(), closed(15, 1)), api.ErrMissing},
		"neither, exercise": {then(voted(), drill(closed(15, 1))), api.ErrMissing},
		"below 0":           {then(voted(), closed(15, -1)), api.ErrMissing},
		"wild":              {then(voted(), closed(15, int(most))), api.ErrMissing},
		"void":              {then(voted(), fact(7, 9, at(0)), closed(15, 0)), api.ErrState},
		"void and early":    {then(voted(), fact(7, 9, at(0)), closed(7, 0)), api.ErrState},
		"closed":            {then(voted(), closed(15, 0), closed(15, 0)), api.ErrState},
		"closed early":      {then(all, closed(7, 0), closed(7, 0)), api.ErrState},
		"early":             {then(voted(), closed(14, 0)), api.ErrOrder},
		"one is missing":    {then(voted(), vote(6, 0, 2, true), closed(6, 0)), api.ErrOrder},
		"no window, early":  {then(known(), move(4, 5, 8), closed(4, 0)), api.ErrOrder},
	} {
		fails(t, name, x.l, x.want)
	}
	for name, x := range map[string]struct {
		l           []api.Item
		state, fact int
	}{
		"failed":              {then(voted(), closed(15, 0)), api.MotionFailed, 0},
		"all voted":           {then(all, closed(6, 0)), api.MotionPassed, 0},
		"all voted, later":    {then(all, closed(99, 0)), api.MotionPassed, 0},
		"passed":              {then(voted(), vote(7, 0, 3, false), closed(15, 0)), api.MotionPassed, 0},
		"no votes":            {then(known(), move(3, 5, 8), closed(4, 0)), api.MotionFailed, 1},
		"none needed":         {then(known(), move(3, 9, 5), closed(9, 0)), api.MotionPassed, 0},
		"against":             {then(moved(), vote(6, 0, 1, false), vote(6, 0, 2, false), vote(6, 0, 3, true), closed(6, 0)), api.MotionFailed, 0},
		"a newer fact":        {then(voted(), fact(7, 9, at(2)), vote(7, 0, 3, true), fact(8, 5, at(1)), drill(fact(8, 9, at(1))), closed(15, 0)), api.MotionPassed, 4},
		"a newer fact, so as": {then(voted(), fact(7, 9, at(1)), closed(15, 0)), api.MotionFailed, 4},
		"without a quorum":    {then(moved(), vote(6, 0, 1, true), closed(15, 0)), api.MotionFailed, 0},
		"exercises before":    {then(drills(known()...), fact(2, 5, at(2)), drill(fact(2, 5, at(1))), fact(2, 9, at(1)), move(2, 9, 7), closed(13, 0)), api.MotionFailed, 1},
	} {
		h := goes(t, name, x.l)
		if m := h.Real.Motions[0]; m.State != x.state || m.Fact != x.fact {
			t.Error(name, m)
		}
	}
	h := goes(t, "an exercise", drills(then(voted(), vote(7, 0, 3, false), closed(15, 0))...))
	if m := h.Drill.Motions[0]; m.State != api.MotionPassed || m.Fact != 0 || len(h.Real.Motions) != 0 || h.Real.Items != 0 {
		t.Error(h)
	}
}

// TestP9_2Any compares houses with the chapter's words, for items with and without errors.
func TestP9_2Any(t *testing.T) {
	d := draw(92)
	seen, decided, sent := map[api.Errno]int{}, map[int]int{}, 0
	for range 6000 {
		c := d.council()
		l, faults := d.right(c, 60)
		for e, n := range faults {
			seen[e] += n
		}
		h, n, e := council.Build(c, l)
		if want, _, _ := steps(c, api.House{}, l); n != -1 || e != api.OK || !equal(h, want) {
			t.Fatal(c, l, h, n, e)
		}
		for _, m := range slices.Concat(h.Real.Motions, h.Drill.Motions) {
			decided[m.State]++
		}
		sent += len(h.Real.Sent)
		l = then(l, d.item(c, h), d.item(c, h), d.item(c, h))
		want, at, fault := steps(c, api.House{}, l)
		if h, n, e := council.Build(c, l); n != at || e != fault || !equal(h, want) {
			t.Fatal(c, l, h, n, e, at, fault)
		}
	}
	for _, e := range []api.Errno{api.ErrRange, api.ErrKind, api.ErrMissing, api.ErrExists, api.ErrState, api.ErrOrder, api.ErrLate, api.ErrExercise} {
		if seen[e] < 300 {
			t.Error("too few cases", e, seen[e])
		}
	}
	for state := api.MotionOpen; state <= api.MotionVoid; state++ {
		if decided[state] < 1000 {
			t.Error("too few motions", state, decided[state])
		}
	}
	if sent < 1000 {
		t.Error("too few alarms", sent)
	}
}

func TestP9_3Arguments(t *testing.T) {
	for name, x := range faultyCouncils() {
		for _, tick := range []int64{-1, 5} {
			if h, e := council.AsOf(x.c, make([]api.Item, 2001), tick); e != x.want || !equal(h, api.House{}) {
				t.Error(name, h, e)
			}
			if h, e := council.AsOf(x.c, known(), tick); e != x.want || !equal(h, api.House{}) {
				t.Error(name, h, e)
			}
		}
	}
	// There are too many items, although none of them is before the tick.
	for _, l := range [][]api.Item{slices.Repeat(items(fact(9, 9, at(1))), 2001), make([]api.Item, 2001)} {
		for _, tick := range []int64{-1, 5, end + 1} {
			if h, e := council.AsOf(three(), l, tick); e != api.ErrFull || !equal(h, api.House{}) {
				t.Error(h, e)
			}
		}
	}
	for _, tick := range []int64{-1, least, end + 1, most} {
		if h, e := council.AsOf(three(), known(), tick); e != api.ErrRange || !equal(h, api.House{}) {
			t.Error(h, e)
		}
	}
}

func TestP9_3AsOf(t *testing.T) {
	l := then(voted(), vote(7, 0, 3, false), closed(15, 0), fact(15, 9, at(0)))
	faulty := then(known(), move(3, 4, 7), fact(4, 9, at(2)))
	early := items(fact(3, 9, at(1)), fact(8, 9, at(2)), fact(4, 9, at(0)))
	for name, x := range map[string]struct {
		l    []api.Item
		tick int64
		n    int // so many of the items are done
	}{
		"before all":           {l, 0, 0},
		"first tick":           {l, 1, 1},
		"second":               {l, 2, 2},
		"between":              {l, 3, 2},
		"the vote":             {l, 6, 4},
		"before the close":     {l, 14, 5},
		"two of a tick":        {l, 15, 7},
		"after all":            {l, 99, 7},
		"last tick":            {l, end, 7},
		"no items":             {nil, 5, 0},
		"before the error":     {faulty, 2, 2},
		"with the error":       {faulty, 3, 2},
		"after the error":      {faulty, 4, 2},
		"long after":           {faulty, end, 2},
		"a later one first":    {early, 4, 1},
		"a later one, done":    {early, 8, 2},
		"wild ticks":           {items(fact(1, 9, at(1)), fact(most, 9, at(2)), fact(1, 9, at(2))), 5, 1},
		"wild ticks, to end":   {items(fact(1, 9, at(1)), fact(most, 9, at(2)), fact(1, 9, at(2))), end, 1},
		"tick below 0":         {items(fact(1, 9, at(1)), fact(-5, 9, at(2)), fact(1, 9, at(2))), 5, 1},
		"tick below 0, as of":  {items(fact(-5, 9, at(2)), fact(0, 9, at(2))), 0, 0},
		"exercises count, too": {items(fact(1, 9, at(1)), drill(fact(8, 9, at(2))), fact(2, 9, at(2))), 5, 1},
	} {
		h, e := council.AsOf(lawful(), x.l, x.tick)
		if e != api.OK || !equal(h, built(lawful(), x.l[:x.n])) {
			t.Error(name, h, e)
		}
	}
}

// TestP9_3Any compares AsOf with the house of the items up to a tick.
func TestP9_3Any(t *testing.T) {
	d := draw(93)
	for range 2000 {
		c := d.council()
		l, _ := d.right(c, 40)
		l = then(l, d.item(c, built(c, l)), d.item(c, built(c, l)))
		for tick := int64(0); tick < 70; tick += d.below(20) {
			var l1 []api.Item
			for _, x := range l {
				if x.Tick > tick {
					break
				}
				l1 = append(l1, x)
			}
			want, _, _ := steps(c, api.House{}, l1)
			if h, e := council.AsOf(c, l, tick); e != api.OK || !equal(h, want) {
				t.Fatal(c, l, tick, h, e)
			}
		}
	}
}
