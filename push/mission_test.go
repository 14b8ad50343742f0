package push_test

import (
	"testing"

	"bolide/api"
	"bolide/push"
)

func TestP8_1CheckMission(t *testing.T) {
	type mission = api.Mission
	for name, c := range map[string]struct {
		m mission
		e api.Errno
	}{
		"I": {impactor(), api.OK}, "C": {charge(), api.OK}, "tractor": {tractor(), api.OK}, "beam": {beam(), api.OK}, "reserve": {reserve(impactor()), api.OK},
		"zero":           {mission{}, api.ErrKind},
		"kind 0":         {with(impactor(), func(m *mission) { m.Kind, m.Launch = 0, -1 }), api.ErrKind},
		"kind 5":         {with(impactor(), func(m *mission) { m.Kind, m.Mass = 5, of(2, 1) }), api.ErrKind},
		"kind below 0":   {with(impactor(), func(m *mission) { m.Kind = -1 }), api.ErrKind},
		"launch":         {with(impactor(), func(m *mission) { m.Launch, m.Mass = -1, of(2, 1) }), api.ErrRange},
		"no flight":      {with(impactor(), func(m *mission) { m.Launch, m.Mass = 10, of(2, 1) }), api.ErrRange},
		"back":           {with(impactor(), func(m *mission) { m.Launch = 11 }), api.ErrRange},
		"short":          {with(impactor(), func(m *mission) { m.Launch = 9 }), api.OK},
		"at 0":           {with(impactor(), func(m *mission) { m.Arrive = 0 }), api.ErrRange},
		"late":           {with(impactor(), func(m *mission) { m.Arrive = end + 1 }), api.ErrRange},
		"latest":         {with(impactor(), func(m *mission) { m.Launch, m.Arrive = end-1, end }), api.OK},
		"both late":      {with(impactor(), func(m *mission) { m.Launch, m.Arrive = end, end+1 }), api.ErrRange},
		"for nothing":    {with(impactor(), func(m *mission) { m.For, m.Mass = 0, of(2, 1) }), api.ErrRange},
		"long":           {with(impactor(), func(m *mission) { m.For = 101 }), api.ErrRange},
		"longest":        {with(tractor(), func(m *mission) { m.For = 100 }), api.OK},
		"longest at end": {with(tractor(), func(m *mission) { m.For, m.Arrive = 100, end }), api.OK},
		"mass order":     {with(impactor(), func(m *mission) { m.Mass, m.Power = of(2, 1), of(-1, 0) }), api.ErrOrder},
		"both of mass":   {with(impactor(), func(m *mission) { m.Mass = of(1<<20+2, 1<<20+1) }), api.ErrOrder},
		"no mass":        {with(impactor(), func(m *mission) { m.Mass, m.Power = of(0, 1), of(1, 0) }), api.ErrRange},
		"great mass":     {with(impactor(), func(m *mission) { m.Mass, m.Power = of(1, 1<<20+1), of(1, 0) }), api.ErrRange},
		"greatest mass":  {with(impactor(), func(m *mission) { m.Mass = of(1, 1<<20) }), api.OK},
		"power order":    {with(impactor(), func(m *mission) { m.Power, m.Mult = of(1, 0), only(0) }), api.ErrOrder},
		"both of power":  {with(charge(), func(m *mission) { m.Power = of(0, -1) }), api.ErrOrder},
		"power below 0":  {with(charge(), func(m *mission) { m.Power, m.Mult = of(-1, 1), of(2, 1) }), api.ErrRange},
		"great power":    {with(impactor(), func(m *mission) { m.Power, m.Mult = of(0, power+1), of(2, 1) }), api.ErrRange},
		"greatest power": {with(charge(), func(m *mission) { m.Power = of(0, power) }), api.OK},
		"mult order":     {with(charge(), func(m *mission) { m.Mult, m.Cost = of(2000, 1000), -1 }), api.ErrOrder},
		"both of mult":   {with(charge(), func(m *mission) { m.Mult = of(1000, 999) }), api.ErrOrder},
		"small mult":     {with(charge(), func(m *mission) { m.Mult = of(999, 1000) }), api.ErrRange},
		"great mult":     {with(charge(), func(m *mission) { m.Mult = of(1000, 10001) }), api.ErrRange},
		"greatest mult":  {with(impactor(), func(m *mission) { m.Mult = of(1000, 10000) }), api.OK},
		"order far on":   {with(impactor(), func(m *mission) { m.Mass, m.Power, m.Mult = of(0, 1), of(1, 0), of(2, 1) }), api.ErrRange},
		"long dir":       {with(impactor(), func(m *mission) { m.Dir = at(4097, 0) }), api.ErrRange},
		"long dir left":  {with(impactor(), func(m *mission) { m.Dir = at(-4097, 0) }), api.ErrRange},
		"long dir up":    {with(impactor(), func(m *mission) { m.Dir = at(0, 4097) }), api.ErrRange},
		"long dir down":  {with(charge(), func(m *mission) { m.Dir = at(0, -4097) }), api.ErrRange},
		"longest dir":    {with(charge(), func(m *mission) { m.Dir = at(4096, -4096) }), api.OK},
		"other ends":     {with(charge(), func(m *mission) { m.Dir = at(-4096, 4096) }), api.OK},
		"no dir":         {with(charge(), func(m *mission) { m.Dir = at(0, 0) }), api.OK},
		"cost":           {with(charge(), func(m *mission) { m.Cost = -1 }), api.ErrRange},
		"dear":           {with(charge(), func(m *mission) { m.Cost = 1001 }), api.ErrRange},
		"dearest":        {with(charge(), func(m *mission) { m.Cost = 1000 }), api.OK},
		"cheapest":       {with(charge(), func(m *mission) { m.Cost = 0 }), api.OK},
	} {
		if e := push.CheckMission(c.m); e != c.e {
			t.Error(name, e)
		}
		if a, e := push.Speeds(world(), c.m, area(1, 2, 3, 4)); e != c.e || e != api.OK && a != (api.Area{}) {
			t.Error(name, a, e)
		}
		if e := push.Check(campaign(impactor(), c.m)); e != c.e {
			t.Error("in a campaign", name, e)
		}
	}
}

func TestP8_1Check(t *testing.T) {
	type campaigns = api.Campaign
	bad := with(impactor(), func(m *api.Mission) { m.Mass = of(2, 1) })
	c := campaign(impactor(), charge())
	for name, c := range map[string]struct {
		c campaigns
		e api.Errno
	}{
		"ordinary": {c, api.OK}, "no missions": {campaign(), api.OK},
		"zero":              {campaigns{}, api.ErrRange},
		"most":              {campaign(make6()...), api.OK},
		"many":              {campaign(append(make6(), api.Mission{})...), api.ErrFull},
		"mission first":     {but(campaign(impactor(), bad, api.Mission{}), func(c *campaigns) { c.Body = only(0) }), api.ErrOrder},
		"first one":         {campaign(api.Mission{}, bad), api.ErrKind},
		"body order":        {but(c, func(c *campaigns) { c.Body, c.Fast = of(2, 1), 0 }), api.ErrOrder},
		"both of body":      {but(c, func(c *campaigns) { c.Body = of(0, -1) }), api.ErrOrder},
		"no body":           {but(c, func(c *campaigns) { c.Body = of(0, 1) }), api.ErrRange},
		"great body":        {but(c, func(c *campaigns) { c.Body = of(1, heavy+1) }), api.ErrRange},
		"greatest body":     {but(c, func(c *campaigns) { c.Body = of(1, heavy) }), api.OK},
		"slow":              {but(c, func(c *campaigns) { c.Fast = 0; c.Keys = make([]api.Keyhole, 41) }), api.ErrRange},
		"fast":              {but(c, func(c *campaigns) { c.Fast = speed + 1 }), api.ErrRange},
		"fastest":           {but(c, func(c *campaigns) { c.Fast = speed }), api.OK},
		"slowest":           {but(c, func(c *campaigns) { c.Fast = 1 }), api.OK},
		"fails":             {but(c, func(c *campaigns) { c.Fails = -1 }), api.ErrRange},
		"many fails":        {but(c, func(c *campaigns) { c.Fails = 4 }), api.ErrRange},
		"most fails":        {but(c, func(c *campaigns) { c.Fails = 3 }), api.OK},
		"miss":              {but(c, func(c *campaigns) { c.Miss = -1 }), api.ErrRange},
		"far miss":          {but(c, func(c *campaigns) { c.Miss = far + 1 }), api.ErrRange},
		"farthest miss":     {but(c, func(c *campaigns) { c.Miss = far }), api.OK},
		"no miss":           {but(c, func(c *campaigns) { c.Miss = 0 }), api.OK},
		"no ticks":          {but(c, func(c *campaigns) { c.Ticks = 0 }), api.ErrRange},
		"many ticks":        {but(c, func(c *campaigns) { c.Ticks = 401 }), api.ErrRange},
		"most ticks":        {but(c, func(c *campaigns) { c.Ticks = 400 }), api.OK},
		"many keys":         {but(c, func(c *campaigns) { c.Keys = make([]api.Keyhole, 41) }), api.ErrFull},
		"most keys":         {but(c, func(c *campaigns) { c.Keys = make([]api.Keyhole, 40) }), api.OK},
		"any keys":          {but(c, func(c *campaigns) { c.Keys = []api.Keyhole{{Tick: least, Line: of(most, least)}} }), api.OK},
		"range before full": {but(c, func(c *campaigns) { c.Ticks, c.Keys = 0, make([]api.Keyhole, 41) }), api.ErrRange},
	} {
		if e := push.Check(c.c); e != c.e {
			t.Error(name, e)
		}
		if l := push.Failures(c.c); (len(l) > 0) != (c.e == api.OK) {
			t.Error("Failures", name, l)
		}
		if _, e := push.Verify(world(), none(), 0, nil, c.c); e != c.e {
			t.Error("Verify", name, e)
		}
	}
}

// make6 are six missions.
func make6() []api.Mission {
	return missions(impactor(), charge(), tractor(), beam(), reserve(impactor()), reserve(charge()))
}

func TestP8_1Speeds(t *testing.T) {
	type mission = api.Mission
	w := moving()
	for i, c := range []struct {
		w    api.World
		m    mission
		a    api.Area
		want api.Area
	}{
		{world(), impactor(), area(100, 104, -20, -20), area(10, 11, -2, -2)},
		{world(), charge(), area(-5, 5, -1, 0), area(-1, 1, -1, 0)},
		{w, with(impactor(), func(m *mission) { m.Launch = 1 }), area(100, 109, -50, -41), area(0, 1, 0, 1)},     // from (100, -50), in 9 ticks
		{w, with(impactor(), func(m *mission) { m.Launch = 4 }), area(100, 106, -50, -56), api.Area{}},           // Lo is greater than Hi
		{w, with(impactor(), func(m *mission) { m.Launch = 4 }), area(100, 107, -56, -50), area(0, 2, -1, 0)},    // in 6 ticks
		{w, with(impactor(), func(m *mission) { m.Launch = 5 }), area(-31, -31, 40, 40), area(-1, 0, 0, 0)},      // from (-30, 40)
		{w, with(impactor(), func(m *mission) { m.Launch = 9 }), area(-31, -31, 40, 41), area(-31, -31, 40, 41)}, // from (0, 0), in 1 tick
	} {
		a, e := push.Speeds(c.w, c.m, c.a)
		if a != c.want || (e == api.OK) != (c.want != api.Area{}) {
			t.Error(i, a, e)
		}
	}
	corner := api.World{Bodies: []api.Body{{Track: []api.Vec{at(-place, place)}}}}
	short := with(impactor(), func(m *mission) { m.Launch = 9 })
	if a, e := push.Speeds(corner, short, area(place, place, -place, -place)); a != area(2*place, 2*place, -2*place, -2*place) || e != api.OK {
		t.Error(a, e)
	}
	d := draw(811)
	for range 20000 {
		w, m := d.world(), d.mission(d.below(9), 9)
		n := int64(1) << d.below(26)
		a := api.Area{X: d.from(-n, n, n), Y: d.from(-n, n, 9)}
		if got, e := push.Speeds(w, m, a); got != speedsOf(w, m, a) || e != api.OK {
			t.Fatal(w, m, a, got, e)
		}
	}
}

func TestP8_1SpeedsErrors(t *testing.T) {
	bad := api.World{Home: 1, Bodies: world().Bodies}
	for name, c := range map[string]struct {
		w api.World
		m api.Mission
		a api.Area
		e api.Errno
	}{
		"no world":  {api.World{}, api.Mission{}, area(1, 0, 0, 0), api.ErrShort},
		"world":     {bad, api.Mission{}, area(1, 0, 0, 0), api.ErrMissing},
		"mission":   {world(), api.Mission{}, area(1, 0, 0, 0), api.ErrKind},
		"order X":   {world(), impactor(), area(1, 0, 0, 0), api.ErrRange},
		"order Y":   {world(), impactor(), area(0, 0, 1, 0), api.ErrRange},
		"right":     {world(), impactor(), area(0, place+1, 0, 0), api.ErrRange},
		"left":      {world(), impactor(), area(-place-1, 0, 0, 0), api.ErrRange},
		"up":        {world(), impactor(), area(0, 0, 0, place+1), api.ErrRange},
		"down":      {world(), impactor(), area(0, 0, -place-1, 0), api.ErrRange},
		"the whole": {world(), impactor(), area(-place, place, -place, place), api.OK},
	} {
		a, e := push.Speeds(c.w, c.m, c.a)
		if e != c.e || e != api.OK && a != (api.Area{}) {
			t.Error(name, a, e)
		}
		if push.Reaches(c.w, c.m, c.a, 1<<20) && e != api.OK {
			t.Error("Reaches", name)
		}
	}
}

func TestP8_1Reaches(t *testing.T) {
	x := area(100, 104, -20, -20) // the speeds 10..11, -2..-2
	for i, c := range []struct {
		a    api.Area
		fast int64
		is   bool
	}{
		{x, 11, true}, {x, 10, false}, {x, speed, true}, {x, speed + 1, false}, {x, most, false}, {x, 0, false}, {x, -11, false}, {x, least, false},
		{area(-104, -100, 0, 0), 11, true}, {area(-104, -100, 0, 0), 10, false}, {area(0, 0, 100, 104), 11, true}, {area(0, 0, 100, 104), 10, false}, {area(0, 0, -104, -100), 11, true}, {area(0, 0, -104, -100), 10, false},
		{area(0, 0, 0, 0), 0, false}, {area(0, 0, 0, 0), 1, true}, {area(-100, 100, -100, 100), 10, true}, {area(-100, 100, -100, 100), 9, false},
	} {
		if is := push.Reaches(world(), impactor(), c.a, c.fast); is != c.is {
			t.Error(i, is)
		}
	}
	d := draw(812)
	count := map[bool]int{}
	for range 20000 {
		w, m, fast := d.world(), d.mission(d.below(9), 9), 1+d.below(200)
		a := api.Area{X: d.from(-300, 300, 30), Y: d.from(-300, 300, 30)}
		limits := api.Area{X: of(-fast, fast), Y: of(-fast, fast)}
		is := push.Reaches(w, m, a, fast)
		if is != isPart(speedsOf(w, m, a), limits) {
			t.Fatal(w, m, a, fast, is)
		}
		count[is]++
	}
	if count[true] < 2000 || count[false] < 2000 {
		t.Error("too few cases", count)
	}
}
