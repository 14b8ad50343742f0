package push_test

import (
	"slices"
	"testing"

	"bolide/api"
	"bolide/orbit"
	"bolide/push"
)

// up and down are campaigns that push a body aside; idle is one that does nothing.
func up() api.Campaign { return against(aside(1, 10)) }

func down() api.Campaign { return against(aside(1, -10)) }

func idle() api.Campaign { return against() }

// four are cells that go by Home: the first one not if it is pushed down, the second one not if it is pushed up, the third one whatever is done, the last one only if something is done.
func four() []api.Box { return boxes(coming(80), coming(-80), coming(-400), coming(5)) }

func TestP8_5Choose(t *testing.T) {
	bad := but(up(), func(c *api.Campaign) { c.Body = of(2, 1) })
	for name, c := range map[string]struct {
		set  []api.Box
		l    []api.Campaign
		want int
		e    api.Errno
	}{
		"first":               {boxes(coming(5)), options(up(), down(), idle()), 0, api.OK},
		"last":                {boxes(coming(5)), options(idle(), idle(), up()), 2, api.OK},
		"second of two":       {boxes(coming(80)), options(down(), up(), idle()), 1, api.OK}, // down to 0
		"none":                {boxes(coming(5)), options(idle(), idle()), -1, api.OK},
		"no cells":            {nil, options(idle(), up()), 0, api.OK},
		"no options":          {boxes(coming(5)), nil, 0, api.ErrShort},
		"many options":        {boxes(coming(5)), options(idle(), idle(), idle(), idle(), idle(), idle(), bad), 0, api.ErrFull},
		"most options":        {boxes(coming(5)), options(idle(), idle(), idle(), idle(), idle(), up()), 5, api.OK},
		"safe before bad":     {boxes(coming(5)), options(idle(), up(), bad), 1, api.OK},
		"bad before safe":     {boxes(coming(5)), options(idle(), bad, up()), 0, api.ErrOrder},
		"bad after all":       {boxes(coming(5)), options(idle(), idle(), bad), 0, api.ErrOrder},
		"safe for a part":     {boxes(coming(5), coming(-80)), options(up(), idle()), -1, api.OK},
		"error of the set":    {boxes(one(place+1, 0, 0, 0)), options(up()), 0, api.ErrRange},
		"number of the first": {make([]api.Box, 41), options(idle(), bad), 0, api.ErrFull},
	} {
		if n, e := (scene{w: world(), set: c.set}).choose(c.l); n != c.want || e != c.e {
			t.Error(name, n, e)
		}
	}
	for name, x := range map[string]struct {
		w api.World
		l []api.Campaign
		e api.Errno
	}{"short": {api.World{}, nil, api.ErrShort}, "full": {api.World{}, make([]api.Campaign, 7), api.ErrFull}, "world": {world(), make([]api.Campaign, 6), api.ErrRange}} {
		if n, e := (scene{w: x.w, tick: -1}).choose(x.l); n != 0 || e != x.e {
			t.Error(name, n, e)
		}
		if a, b, e := (scene{w: x.w, tick: -1}).worth(x.l, lists(list(9))); a != 0 || b != 0 || e != x.e {
			t.Error(name, a, b, e)
		}
	}
}

func TestP8_5Worth(t *testing.T) {
	both := options(up(), down())
	for name, c := range map[string]struct {
		l               []api.Campaign
		parts           [][]int
		together, apart int
	}{
		"one part of one":     {both, lists(list(0)), 1, 1},
		"apart":               {both, lists(list(0), list(1)), 0, 2},
		"together":            {both, lists(list(0, 1)), 0, 0},
		"together, up alone":  {options(up()), lists(list(0), list(2)), 2, 2},
		"one part of two":     {options(up()), lists(list(0), list(1)), 0, 1},
		"all of them apart":   {both, lists(list(0, 2), list(1, 2)), 0, 4}, // 2 counts twice
		"twice":               {both, lists(list(0, 2), list(0), list(2)), 2, 4},
		"nothing is safe":     {options(idle()), lists(list(3), list(2, 3)), 0, 0},
		"one is safe":         {options(idle()), lists(list(3), list(2)), 0, 1},
		"no parts":            {both, nil, 0, 0},
		"empty parts":         {both, lists(nil, list()), 0, 0},
		"empty part and one":  {both, lists(nil, list(0)), 1, 1},
		"different options":   {both, lists(list(0, 3), list(1, 2), list(2, 3)), 0, 6},
		"one option for each": {options(idle(), up(), down()), lists(list(0, 1, 3)), 0, 0},
		"the last option":     {options(up(), down(), idle()), lists(list(0, 1), list(2)), 3, 3},
	} {
		a, b, e := (scene{w: world(), set: four()}).worth(c.l, c.parts)
		if a != c.together || b != c.apart || e != api.OK {
			t.Error(name, a, b, e)
		}
	}
}

func TestP8_5WorthErrors(t *testing.T) {
	bad := but(up(), func(c *api.Campaign) { c.Body = of(2, 1) })
	for name, c := range map[string]struct {
		l     []api.Campaign
		parts [][]int
		e     api.Errno
	}{
		"right":                {options(up()), lists(list(0, 1, 3), list(3), list(0, 2), nil), api.OK},
		"no options":           {nil, lists(list(4)), api.ErrShort},
		"many options":         {make([]api.Campaign, 7), lists(list(4)), api.ErrFull},
		"option before parts":  {options(up(), bad), lists(list(4)), api.ErrOrder},
		"safe does not matter": {options(idle(), up(), bad), nil, api.ErrOrder},
		"first bad one":        {options(up(), api.Campaign{}, bad), nil, api.ErrRange},
		"no cell":              {options(up()), lists(list(0), list(4)), api.ErrMissing},
		"below 0":              {options(up()), lists(list(-1)), api.ErrMissing},
		"twice":                {options(up()), lists(list(0, 0)), api.ErrOrder},
		"back":                 {options(up()), lists(list(0), list(2, 1)), api.ErrOrder},
		"missing and back":     {options(up()), lists(list(2, -1)), api.ErrMissing},
		"missing, then back":   {options(up()), lists(list(4, 0)), api.ErrMissing},
		"back, then missing":   {options(up()), lists(list(1, 0, 4)), api.ErrOrder},
	} {
		if a, b, e := (scene{w: world(), set: four()}).worth(c.l, c.parts); e != c.e || e != api.OK && (a != 0 || b != 0) {
			t.Error(name, a, b, e)
		}
	}
	if _, _, e := (scene{w: world()}).worth(options(up()), lists(list(0))); e != api.ErrMissing {
		t.Error("no cells", e)
	}
}

// campaigns returns options that differ from the campaign of a scene in their missions.
func (d *draw) campaigns(s scene, n int64) []api.Campaign {
	var l []api.Campaign
	for range 1 + d.below(n) {
		c := s.c
		c.Missions = nil
		for range d.below(3) {
			c.Missions = append(c.Missions, d.mission(s.tick, int64(c.Ticks)))
		}
		c.Fails, c.Fast, c.Miss = int(d.below(2)), 1<<(7+d.below(13)), d.below(15)
		l = append(l, c)
	}
	return l
}

// isSafe is whether a campaign is safe for some cells, as the chapter writes it.
func (s scene) isSafe(c api.Campaign, part []int) bool {
	s.c, s.set = c, some(s.set, part)
	return s.verdictOf().Safe
}

// savedOf is how many cells a part has, if some option is safe for them; otherwise 0.
func (s scene) savedOf(l []api.Campaign, part []int) int {
	if slices.ContainsFunc(l, func(c api.Campaign) bool { return s.isSafe(c, part) }) {
		return len(part)
	}
	return 0
}

// TestP8_5Any compares choices, and their worth, with the chapter's words.
func TestP8_5Any(t *testing.T) {
	d := draw(85)
	count := map[bool]int{}
	for range 5000 {
		s := d.scene(4, 0)
		s.c.Body = d.from(50, 90, 9)
		l := d.campaigns(s, 4)
		var all []int
		for i := range s.set {
			all = append(all, i)
		}
		want := slices.IndexFunc(l, func(c api.Campaign) bool { return s.isSafe(c, all) })
		if n, e := s.choose(l); n != want || e != api.OK {
			t.Fatal(s, l, n, e, want)
		}
		var parts [][]int
		in := map[int]bool{}
		apart := 0
		for range d.below(4) {
			var part []int
			for i := range s.set {
				if d.below(2) == 0 {
					part = append(part, i)
					in[i] = true
				}
			}
			parts = append(parts, part)
			apart += s.savedOf(l, part)
		}
		together := s.savedOf(l, slices.DeleteFunc(slices.Clone(all), func(i int) bool { return !in[i] }))
		a, b, e := s.worth(l, parts)
		if a != together || b != apart || e != api.OK {
			t.Fatal(s, l, parts, a, b, e, together, apart)
		}
		if a > b {
			t.Fatal("P8.13", s, l, parts, a, b)
		}
		count[a < b]++
	}
	if count[true] < 300 || count[false] < 300 {
		t.Error("too few cases", count)
	}
}

func TestP8_6Windows(t *testing.T) {
	leaving := one(100, 0, -5, 0)
	for name, c := range map[string]struct {
		set          []api.Box
		tick         int64
		launch, fast int64
		ticks        int
		want         []int64
	}{
		"of the chapter":    {boxes(leaving), 0, 0, 20, 10, []int64{4, 5, 6, 7, 8, 9, 10}},
		"faster":            {boxes(leaving), 0, 0, 95, 2, []int64{1, 2}}, // 95 in 1 tick
		"slower":            {boxes(leaving), 0, 0, 94, 2, []int64{2}},
		"later":             {boxes(leaving), 0, 3, 20, 10, []int64{7, 8, 9, 10}}, // 70 in 3 ticks are more than 20 a tick, 65 in 4 ticks are not
		"launched before":   {boxes(leaving), 10, 5, 20, 3, []int64{10, 11, 12, 13}},
		"launched then":     {boxes(leaving), 10, 10, 50, 3, []int64{12, 13}},
		"launched after":    {boxes(leaving), 0, 10, 1000, 10, nil},
		"launched last":     {boxes(leaving), 0, 9, 1000, 10, []int64{10}},
		"no ticks":          {boxes(leaving), 7, 0, 20, 0, []int64{7}},
		"no ticks, too far": {boxes(leaving), 4, 0, 20, 0, nil},
		"no cells":          {nil, 3, 4, 1, 4, []int64{5, 6, 7}},
		"two cells":         {boxes(leaving, one(0, 60, 0, 0)), 0, 0, 10, 9, []int64{7, 8, 9}},
		"second cell":       {boxes(leaving, one(0, 400, 0, 0)), 0, 0, 20, 9, nil},
		"going away":        {boxes(one(-40, 0, 30, 0)), 0, 0, 15, 3, []int64{1, 2}},                // at -10, 20, 50
		"speeds":            {boxes(box(0, 0, 90, 90, 0, 0, -20, -10)), 0, 0, 20, 4, []int64{3, 4}}, // up to 35 a tick in 2 ticks, up to 20 in 3
	} {
		s := scene{w: world(), tick: c.tick, set: c.set}
		if l, e := s.windows(c.launch, c.fast, c.ticks); !slices.Equal(l, c.want) || e != api.OK {
			t.Error(name, l, e)
		}
	}
	s := scene{w: moving(), set: boxes(one(100, -50, 0, 0))}
	for launch, want := range [][]int64{{10}, {2, 3, 4, 5, 6, 7, 8, 9, 10}, nil} { // from (0, 0) in 10 ticks of 10; from the place itself; from (-30, 40), not in 8 ticks
		if l, e := s.windows(int64(launch), 10, 10); !slices.Equal(l, want) || e != api.OK {
			t.Error(launch, l, e)
		}
	}
}

func TestP8_6WindowsErrors(t *testing.T) {
	gas := api.Drift{Gas: 1001}
	over := one(place-5, 0, 10, 0)
	many := make([]api.Box, 41)
	type question struct {
		w            api.World
		d            api.Drift
		tick         int64
		set          []api.Box
		launch, fast int64
		ticks        int
	}
	for name, c := range map[string]struct {
		q question
		e api.Errno
	}{
		"world":          {question{api.World{}, gas, -1, many, -1, 0, -1}, api.ErrShort},
		"drift":          {question{world(), api.Drift{Heat: of(1, 0)}, -1, many, -1, 0, -1}, api.ErrOrder},
		"gas":            {question{world(), gas, 0, nil, 0, 1, 0}, api.ErrRange},
		"launch":         {question{world(), none(), 0, many, -1, 1, 0}, api.ErrRange},
		"late launch":    {question{world(), none(), 0, many, end + 1, 1, 0}, api.ErrRange},
		"latest launch":  {question{world(), none(), 0, nil, end, 1, 0}, api.OK},
		"slow":           {question{world(), none(), 0, many, 0, 0, 0}, api.ErrRange},
		"fast":           {question{world(), none(), 0, many, 0, speed + 1, 0}, api.ErrRange},
		"fastest":        {question{world(), none(), 0, nil, 0, speed, 0}, api.OK},
		"ticks":          {question{world(), none(), 0, many, 0, 1, -1}, api.ErrRange},
		"many ticks":     {question{world(), none(), 0, many, 0, 1, 401}, api.ErrRange},
		"most ticks":     {question{world(), none(), 0, boxes(coming(0)), 400, 1, 400}, api.OK},
		"tick":           {question{world(), none(), -1, make([]api.Box, 513), 0, 1, 0}, api.ErrRange},
		"late":           {question{world(), none(), end, nil, 0, 1, 1}, api.ErrRange},
		"never":          {question{world(), none(), most, nil, 0, 1, 1}, api.ErrRange},
		"latest":         {question{world(), none(), end - 1, nil, end, 1, 1}, api.OK},
		"full":           {question{world(), none(), 0, make([]api.Box, 513), 0, 1, 0}, api.ErrFull},
		"box":            {question{world(), none(), 0, append(slices.Clone(many), one(0, 0, 0, speed+1)), 0, 1, 0}, api.ErrRange},
		"over":           {question{world(), none(), 0, boxes(coming(0), over), 0, 1, 1}, api.ErrOver},
		"over, and many": {question{world(), none(), 0, append(slices.Clone(many), over), 0, 1, 1}, api.ErrOver},
		"many":           {question{world(), none(), 0, many, 0, 1, 0}, api.ErrFull},
		"most":           {question{world(), none(), 0, many[:40], 0, 1, 0}, api.OK},
	} {
		q := c.q
		l, e := push.Windows(q.w, q.d, q.tick, q.set, q.launch, q.fast, q.ticks)
		if e != c.e || len(l) > 0 {
			t.Error(name, l, e)
		}
	}
}

// windowsOf are the windows, as the chapter writes them.
func windowsOf(s scene, launch, fast int64, ticks int) []int64 {
	var l []int64
	for t := max(s.tick, launch+1); t <= s.tick+int64(ticks); t++ {
		set, _ := orbit.Propagate(s.w, s.d, s.tick, s.set, int(t-s.tick))
		craft := api.Mission{Launch: launch, Arrive: t}
		limits := api.Area{X: of(-fast, fast), Y: of(-fast, fast)}
		if !slices.ContainsFunc(set, func(b api.Box) bool { return !isPart(speedsOf(s.w, craft, placesOf(b)), limits) }) {
			l = append(l, t)
		}
	}
	return l
}

// TestP8_6Any compares windows with the chapter's words.
func TestP8_6Any(t *testing.T) {
	d := draw(86)
	count := map[int]int{}
	for range 10000 {
		s := d.scene(3, 0)
		launch, fast, ticks := d.below(12), 1+d.below(200), int(d.below(8))
		if _, e := orbit.Propagate(s.w, s.d, s.tick, s.set, ticks); e != api.OK {
			if l, got := s.windows(launch, fast, ticks); len(l) > 0 || got != e {
				t.Fatal(s, launch, fast, ticks, l, got, e)
			}
			continue
		}
		l, e := s.windows(launch, fast, ticks)
		if !slices.Equal(l, windowsOf(s, launch, fast, ticks)) || e != api.OK {
			t.Fatal(s, launch, fast, ticks, l, e)
		}
		if len(s.set) > 0 {
			count[min(2, len(l))]++
		}
	}
	for n := range 3 {
		if count[n] < 300 {
			t.Error("too few cases", count)
		}
	}
}
