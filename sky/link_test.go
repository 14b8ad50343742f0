package sky_test

import (
	"slices"
	"testing"

	"bolide/api"
	"bolide/sky"
)

// rightwards is the second sight of the chapter's example of Link.
func rightwards() api.Sight {
	return sightWith(upwards(), func(x *api.Sight) { x.Tick, x.Dir = 1, at(1, 0) })
}

// many returns n times the same sight.
func many(x api.Sight, n int) []api.Sight {
	return slices.Repeat([]api.Sight{x}, n)
}

// same reports whether two lists of lists are equal; nil and empty ones are.
func same(a, b [][]int) bool {
	return slices.EqualFunc(a, b, slices.Equal[[]int])
}

// tracklet returns a tracklet in the sky still, made of what is seen of a guess at the tick 0, with some wrong links.
func tracklet(d *draw, g api.State) []api.Sight {
	var l []api.Sight
	var tick int64
	for range 1 + d.below(3) {
		tick += d.below(3)
		x := d.sight(12)
		x.Tick = tick
		p := at(g.X+g.U*tick, g.Y+g.V*tick)
		for range 30 {
			if isSeen(x, p) || d.below(12) == 0 {
				break
			}
			x = d.sight(12)
			x.Tick = tick
		}
		l = append(l, x)
	}
	return l
}

// guess returns a small guess.
func (d *draw) guess() api.State {
	return state(d.upTo(10), d.upTo(10), d.upTo(3), d.upTo(3))
}

// guesses returns up to n small guesses.
func (d *draw) guesses(n int64) []api.State {
	var l []api.State
	for range d.below(n + 1) {
		l = append(l, d.guess())
	}
	return l
}

// missed returns the numbers of the sights in the sky still that a guess at the tick 0 does not agree with.
func missed(l []api.Sight, g api.State) []int {
	var m []int
	for i, x := range l {
		if !isSeen(x, at(g.X+g.U*x.Tick, g.Y+g.V*x.Tick)) {
			m = append(m, i)
		}
	}
	return m
}

func TestP2_3CheckTracklet(t *testing.T) {
	x, bad := upwards(), api.Sight{}
	early := sightWith(x, func(x *api.Sight) { x.Tick = 4 })
	late := sightWith(x, func(x *api.Sight) { x.Tick = 5 })
	for name, c := range map[string]struct {
		l []api.Sight
		e api.Errno
	}{
		"one":             {many(x, 1), api.OK},
		"none":            {nil, api.ErrShort},
		"64":              {many(x, 64), api.OK},
		"65":              {many(x, 65), api.ErrFull},
		"65 bad ones":     {many(bad, 65), api.ErrFull},
		"same tick":       {[]api.Sight{early, early, late}, api.OK},
		"descends":        {[]api.Sight{early, late, early}, api.ErrOrder},
		"bad":             {[]api.Sight{early, bad}, api.ErrKind},
		"bad comes first": {[]api.Sight{late, early, bad}, api.ErrOrder},
		"sight first":     {[]api.Sight{late, sightWith(early, func(x *api.Sight) { x.Err = -1 })}, api.ErrRange},
		"bad, descends":   {[]api.Sight{bad, late, early}, api.ErrKind},
	} {
		if e := sky.CheckTracklet(heaven(), c.l); e != c.e {
			t.Error(name, e)
		}
		if n := sky.Miss(heaven(), c.l, state(1000, 110, 0, 0), 0); (n == -2) != (c.e != api.OK) {
			t.Error("Miss", name, n)
		}
	}
	if e := sky.CheckTracklet(skyWith(func(s *api.Sky) { s.Stations[0].ID = 0 }), nil); e != api.ErrOrder {
		t.Error("the sky comes first", e)
	}
}

func TestP2_3Miss(t *testing.T) {
	l := []api.Sight{upwards(), rightwards()}
	for _, c := range []struct {
		g    api.State
		tick int64
		n    int
	}{
		{state(1000, 110, -500, 900), 0, -1}, {state(500, 1010, -500, 900), 1, -1}, {state(0, 1910, -500, 900), 2, -1},
		{state(1000, 110, 0, 0), 0, 1}, {state(1011, 110, -511, 900), 0, 0}, {state(1000, 110, -500, 960), 0, 1},
		{state(1000, 110, 1<<20, 0), 0, -1}, {state(1000, 110, 1<<20+1, 0), 0, -2}, {state(1000, 110, 0, -1<<20-1), 0, -2}, {state(1000, 110, 0, least), 0, -2},
		{state(place+1, 0, 0, 0), 0, -2}, {state(0, -place-1, 0, 0), 0, -2}, {state(place, -place, -1<<20, 1<<20), 0, 0},
		{state(0, 0, 0, 0), -1, -2}, {state(0, 0, 0, 0), 1<<30 + 1, -2}, {state(0, 0, 0, 0), 1 << 30, 0}, {state(place, place, 1<<20, 1<<20), 1 << 30, 0},
	} {
		if n := sky.Miss(heaven(), l, c.g, c.tick); n != c.n {
			t.Error(c, n)
		}
	}
	if n := sky.Miss(api.Sky{}, l, state(1000, 110, 0, 0), 0); n != -2 {
		t.Error("no world", n)
	}
	// It flies out of all limits: a range that reaches everywhere is missed then, as is an empty look.
	far := []api.Sight{distance(0, 0, 1<<27), distance(1, 0, 1<<27), distance(2, 0, 1<<27)}
	if n := sky.Miss(heaven(), far, state(place, 0, 1<<20, 0), 1); n != 2 {
		t.Error("beyond", n)
	}
	if n := sky.Miss(heaven(), []api.Sight{nothing()}, state(place, 0, 1<<20, 0), 1); n != -1 {
		t.Error("a tick before", n)
	}
	away := sightWith(nothing(), func(x *api.Sight) { x.Tick = 2 })
	if n := sky.Miss(heaven(), []api.Sight{away}, state(place, 0, 1<<20, 0), 1); n != 0 {
		t.Error("an empty look", n)
	}
	last := sightWith(upwards(), func(x *api.Sight) { x.Tick = 1 << 30 })
	if n := sky.Miss(heaven(), []api.Sight{last}, state(1000, 110, 1<<20, 1<<20), 0); n != 0 {
		t.Error("a long time", n)
	}
}

func TestP2_4Link(t *testing.T) {
	a, b := many(upwards(), 1), many(rightwards(), 1)
	links, keeps, other := state(1000, 110, -500, 900), state(1000, 110, 0, 0), state(0, 0, 0, 0)
	three := []api.Sight{upwards(), upwards(), upwards()}
	for name, c := range map[string]struct {
		a, b    []api.Sight
		guesses []api.State
		n       int
		reasons []int
	}{
		"links":             {a, b, []api.State{links}, 0, nil},
		"keeps apart":       {a, b, []api.State{keeps}, -1, []int{1}},
		"first that links":  {a, b, []api.State{keeps, other, links, links}, 2, nil},
		"reasons":           {a, b, []api.State{keeps, other, keeps}, -1, []int{1, 0, 1}},
		"reasons count on":  {three, b, []api.State{other, keeps}, -1, []int{0, 3}},
		"reasons count":     {b, three, []api.State{other, keeps}, -1, []int{0, 0}},
		"no guesses":        {a, b, nil, -1, nil},
		"ticks may descend": {b, a, []api.State{links}, 0, nil},
		"the same twice":    {a, a, []api.State{links}, 0, nil},
	} {
		n, reasons, e := sky.Link(heaven(), c.a, c.b, c.guesses, 0)
		if n != c.n || !slices.Equal(reasons, c.reasons) || e != api.OK {
			t.Error(name, n, reasons, e)
		}
	}
}

// wrong has arguments of Link and Believe that are not valid, and what is to be returned.
type wrong struct {
	s       api.Sky
	l       []api.Sight
	guesses []api.State
	tick    int64
	e       api.Errno
}

func wrongs() map[string]wrong {
	s, bad := heaven(), skyWith(func(s *api.Sky) { s.World.Home = 2 })
	l, fine := many(upwards(), 1), make([]api.State, 64)
	full, beyond := make([]api.State, 65), []api.State{{}, {U: 1<<20 + 1}}
	full[64] = beyond[1]
	return map[string]wrong{
		"fine":            {s, l, fine, 1 << 30, api.OK},
		"sky":             {bad, nil, full, -1, api.ErrMissing},
		"no sights":       {s, nil, full, -1, api.ErrShort},
		"many sights":     {s, many(api.Sight{}, 65), full, -1, api.ErrFull},
		"sight":           {s, many(api.Sight{}, 1), full, -1, api.ErrKind},
		"order":           {s, []api.Sight{rightwards(), upwards()}, full, -1, api.ErrOrder},
		"many guesses":    {s, l, full, -1, api.ErrFull},
		"early":           {s, l, fine, -1, api.ErrRange},
		"late":            {s, l, fine, 1<<30 + 1, api.ErrRange},
		"guess":           {s, l, beyond, 0, api.ErrRange},
		"early, no guess": {s, l, nil, -1, api.ErrRange},
	}
}

func TestP2_4NotValid(t *testing.T) {
	for name, c := range wrongs() {
		fine := many(upwards(), 1)
		if n, reasons, e := sky.Link(c.s, c.l, fine, c.guesses, c.tick); e != c.e || e != api.OK && (n != 0 || reasons != nil) {
			t.Error("first", name, n, reasons, e)
		}
		if n, reasons, e := sky.Link(c.s, fine, c.l, c.guesses, c.tick); e != c.e || e != api.OK && (n != 0 || reasons != nil) {
			t.Error("second", name, n, reasons, e)
		}
	}
	if _, _, e := sky.Link(heaven(), many(api.Sight{}, 1), nil, nil, 0); e != api.ErrKind {
		t.Error("the first tracklet comes first", e)
	}
}

func TestP2_5Believe(t *testing.T) {
	l := []api.Sight{upwards(), upwards(), rightwards(), sightWith(rightwards(), func(x *api.Sight) { x.Dir = at(-1, 0) })}
	all, two, none := state(1000, 110, -500, 900), state(1000, 110, 0, 0), state(0, 0, 0, 0)
	for name, c := range map[string]struct {
		guesses []api.State
		n       int
		out     []int
	}{
		"the most":         {[]api.State{none, two, all}, 2, []int{3}},
		"the first of two": {[]api.State{two, state(1000, 111, 0, 0), none}, 0, []int{2, 3}},
		"none agrees":      {[]api.State{none, none}, 0, []int{0, 1, 2, 3}},
		"the last":         {[]api.State{none, none, two}, 2, []int{2, 3}},
	} {
		n, out, e := sky.Believe(heaven(), l, c.guesses, 0)
		if n != c.n || !slices.Equal(out, c.out) || e != api.OK {
			t.Error(name, n, out, e)
		}
	}
	if n, out, e := sky.Believe(heaven(), l[:3], []api.State{two, all}, 0); n != 1 || len(out) != 0 || e != api.OK {
		t.Error("all agree", n, out, e)
	}
}

func TestP2_5NotValid(t *testing.T) {
	for name, c := range wrongs() {
		if n, out, e := sky.Believe(c.s, c.l, c.guesses, c.tick); e != c.e || e != api.OK && (n != 0 || out != nil) {
			t.Error(name, n, out, e)
		}
	}
	if n, out, e := sky.Believe(heaven(), many(upwards(), 1), nil, 0); n != 0 || out != nil || e != api.ErrMissing {
		t.Error("no guesses", n, out, e)
	}
}

func TestP2_6Groups(t *testing.T) {
	up, right, both := many(upwards(), 1), many(rightwards(), 1), []api.Sight{upwards(), rightwards()}
	down := many(sightWith(upwards(), func(x *api.Sight) { x.Dir = at(0, -1) }), 1)
	all, rest, below := state(1000, 110, -500, 900), state(1000, 110, 0, 0), state(1000, -90, -500, 1100)
	for name, c := range map[string]struct {
		l       [][]api.Sight
		guesses []api.State
		want    [][]int
	}{
		"all":                 {[][]api.Sight{up, right, both}, []api.State{all}, [][]int{{0, 1, 2}}},
		"none":                {nil, []api.State{all}, nil},
		"no guesses":          {[][]api.Sight{up, right}, nil, [][]int{{0}, {1}}},
		"one is no group":     {[][]api.Sight{up, right, both}, []api.State{rest, all}, [][]int{{0, 1, 2}}},
		"first come":          {[][]api.Sight{up, right, up, both}, []api.State{rest, all}, [][]int{{0, 2}, {1, 3}}},
		"the others behind":   {[][]api.Sight{down, up, right, both}, []api.State{all}, [][]int{{1, 2, 3}, {0}}},
		"the others in order": {[][]api.Sight{right, up, both, up, down}, []api.State{rest}, [][]int{{1, 3}, {0}, {2}, {4}}},
		"in order of guesses": {[][]api.Sight{up, up, down, right}, []api.State{below, rest}, [][]int{{2, 3}, {0, 1}}},
	} {
		if groups, e := sky.Groups(heaven(), c.l, c.guesses, 0); !same(groups, c.want) || e != api.OK {
			t.Error(name, groups, e)
		}
	}
}

func TestP2_6NotValid(t *testing.T) {
	for name, c := range wrongs() {
		if groups, e := sky.Groups(c.s, [][]api.Sight{many(upwards(), 1), c.l}, c.guesses, c.tick); e != c.e || e != api.OK && groups != nil {
			t.Error(name, groups, e)
		}
	}
	up, s := many(upwards(), 1), heaven()
	if _, e := sky.Groups(s, slices.Repeat([][]api.Sight{up}, 16), nil, 0); e != api.OK {
		t.Error("16", e)
	}
	if groups, e := sky.Groups(s, slices.Repeat([][]api.Sight{nil}, 17), nil, -1); groups != nil || e != api.ErrFull {
		t.Error("17", groups, e)
	}
	if _, e := sky.Groups(s, [][]api.Sight{up, nil, many(api.Sight{}, 1)}, nil, -1); e != api.ErrShort {
		t.Error("the first that has one", e)
	}
	if _, e := sky.Groups(api.Sky{}, slices.Repeat([][]api.Sight{nil}, 17), nil, 0); e != api.ErrShort {
		t.Error("the sky comes first", e)
	}
	if _, e := sky.Groups(s, nil, make([]api.State, 65), 0); e != api.ErrFull {
		t.Error("guesses, without tracklets", e)
	}
	if _, e := sky.Groups(s, nil, nil, -1); e != api.ErrRange {
		t.Error("a tick, without tracklets", e)
	}
}

// TestP2_6Memory changes one group: the others stay as they are.
func TestP2_6Memory(t *testing.T) {
	l := slices.Repeat([][]api.Sight{many(upwards(), 1)}, 4)
	groups, _ := sky.Groups(heaven(), l, nil, 0)
	for i := range groups {
		_ = append(groups[i], 99)
		groups[i][0] = 77
	}
	if again, _ := sky.Groups(heaven(), l, nil, 0); !same(again, [][]int{{0}, {1}, {2}, {3}}) || !same(groups, [][]int{{77}, {77}, {77}, {77}}) {
		t.Error(groups, again)
	}
}

func TestP2_11Link(t *testing.T) {
	d := draw(11)
	s := still()
	count := map[bool]int{}
	for range 20000 {
		g := d.guess()
		a, b := tracklet(&d, g), tracklet(&d, g)
		guesses := append(d.guesses(4), g)
		n, reasons, e := sky.Link(s, a, b, guesses, 0)
		back, backReasons, backE := sky.Link(s, b, a, guesses, 0)
		if n != back || e != api.OK || backE != api.OK || len(reasons) != len(backReasons) {
			t.Fatal("order", a, b, guesses, n, back)
		}
		more, _, _ := sky.Link(s, a, b, append(guesses, d.guesses(4)...), 0)
		if n >= 0 && more != n || n < 0 && more >= 0 && more < len(guesses) {
			t.Fatal("more guesses", n, more)
		}
		for i, g := range guesses {
			first := sky.Miss(s, a, g, 0)
			if first < 0 {
				if first = sky.Miss(s, b, g, 0); first >= 0 {
					first += len(a)
				}
			}
			if n < 0 && reasons[i] != first || i < n && first < 0 || i == n && first >= 0 {
				t.Fatal("reasons", i, n, reasons, first)
			}
			if m := missed(append(slices.Clone(a), b...), g); len(m) == 0 != (first < 0) || len(m) > 0 && m[0] != first {
				t.Fatal("missed", i, m, first)
			}
		}
		count[n >= 0]++
	}
	if count[true] < 1000 || count[false] < 1000 {
		t.Error("too few cases", count)
	}
}

func TestP2_12Believe(t *testing.T) {
	d := draw(12)
	s := still()
	for range 20000 {
		g := d.guess()
		l := tracklet(&d, g)
		guesses := append(d.guesses(5), g)
		n, out, e := sky.Believe(s, l, guesses, 0)
		if e != api.OK || !slices.Equal(out, missed(l, guesses[n])) {
			t.Fatal(n, out, e)
		}
		for i, g := range guesses {
			if m := missed(l, g); len(m) < len(out) || i < n && len(m) == len(out) {
				t.Fatal("better", i, n, m, out)
			}
		}
	}
}

func TestP2_13Groups(t *testing.T) {
	d := draw(13)
	s := still()
	var pairs int
	for range 5000 {
		g, h := d.guess(), d.guess()
		var l [][]api.Sight
		for range d.below(8) {
			l = append(l, tracklet(&d, []api.State{g, h}[d.below(2)]))
		}
		guesses := append(d.guesses(2), g, h)
		groups, e := sky.Groups(s, l, guesses, 0)
		seen := make([]int, len(l))
		for _, group := range groups {
			linked := len(group) == 1
			for _, g := range guesses {
				linked = linked || !slices.ContainsFunc(group, func(i int) bool { return sky.Miss(s, l[i], g, 0) != -1 })
			}
			if !linked || !slices.IsSorted(group) || len(group) == 0 {
				t.Fatal("not linked", group)
			}
			if len(group) > 1 {
				pairs++
			}
			for _, i := range group {
				seen[i]++
			}
		}
		if e != api.OK || slices.ContainsFunc(seen, func(n int) bool { return n != 1 }) {
			t.Fatal("not in just one", groups, e)
		}
	}
	if pairs < 1000 {
		t.Error("too few cases", pairs)
	}
}
