package force_test

import (
	"testing"

	"bolide/api"
	"bolide/force"
)

func TestP3_1CheckDrift(t *testing.T) {
	for _, c := range []struct {
		d api.Drift
		e api.Errno
	}{
		{api.Drift{}, api.OK}, {drift(), api.OK},
		{api.Drift{Light: of(0, 1000), Heat: of(-1000, 1000), Gas: 1000}, api.OK},
		{api.Drift{Light: of(1000, 1000), Heat: of(1000, 1000)}, api.OK}, {api.Drift{Heat: of(-1000, -1000)}, api.OK},
		{api.Drift{Light: of(-1, 0)}, api.ErrRange}, {api.Drift{Light: of(-1, -1)}, api.ErrRange}, {api.Drift{Light: of(0, 1001)}, api.ErrRange}, {api.Drift{Light: of(1, 0)}, api.ErrOrder},
		{api.Drift{Light: of(1001, 1001)}, api.ErrRange}, {api.Drift{Light: of(least, most)}, api.ErrRange}, {api.Drift{Light: of(most, least)}, api.ErrOrder}, {api.Drift{Light: of(0, -1)}, api.ErrOrder},
		{api.Drift{Heat: of(-1001, 0)}, api.ErrRange}, {api.Drift{Heat: of(0, 1001)}, api.ErrRange}, {api.Drift{Heat: of(1, 0)}, api.ErrOrder}, {api.Drift{Heat: of(-1001, -1001)}, api.ErrRange},
		{api.Drift{Heat: of(most, least)}, api.ErrOrder}, {api.Drift{Heat: of(2000, 1999)}, api.ErrOrder}, {api.Drift{Heat: of(least, most)}, api.ErrRange},
		{api.Drift{Gas: -1}, api.ErrRange}, {api.Drift{Gas: 1001}, api.ErrRange}, {api.Drift{Gas: least}, api.ErrRange}, {api.Drift{Gas: most}, api.ErrRange},
		{api.Drift{Light: of(-1, 0), Heat: of(1, 0)}, api.ErrRange}, {api.Drift{Light: of(1, 0), Heat: of(-1001, 0)}, api.ErrOrder}, {api.Drift{Heat: of(1, 0), Gas: -1}, api.ErrOrder},
	} {
		if e := force.CheckDrift(c.d); e != c.e {
			t.Error(c.d, e)
		}
	}
}

// question is a question, and its error.
type question struct {
	w    api.World
	d    api.Drift
	tick int64
	a    api.Area
	e    api.Errno
}

func questions() map[string]question {
	w, d, a, bad := world(), drift(), area(40, 50, 0, 0), world()
	bad.Home = 2
	heavy := world()
	heavy.Bodies[1].Mu = api.MaxMu + 1
	empty := world()
	empty.Bodies[0].Track = nil
	beyond, disorder := area(0, place+1, 1, 0), area(1, 0, 0, 1<<61)
	wrong := api.Drift{Light: of(1, 0)}
	return map[string]question{
		"fine":                      {w, d, 0, a, api.OK},
		"the last tick":             {w, d, 1 << 30, a, api.OK},
		"all places":                {w, d, 0, area(-place, place, -place, place), api.OK},
		"no bodies":                 {api.World{}, wrong, -1, disorder, api.ErrShort},
		"no home":                   {bad, wrong, -1, disorder, api.ErrMissing},
		"too heavy":                 {heavy, wrong, -1, disorder, api.ErrRange},
		"no track":                  {empty, wrong, -1, disorder, api.ErrShort},
		"early":                     {w, d, -1, disorder, api.ErrRange},
		"late":                      {w, d, 1<<30 + 1, disorder, api.ErrRange},
		"very late":                 {w, d, most, disorder, api.ErrRange},
		"X is no span":              {w, d, 0, disorder, api.ErrOrder},
		"Y is no span":              {w, d, 0, area(0, 1, 1, 0), api.ErrOrder},
		"Y is no span, X is beyond": {w, d, 0, beyond, api.ErrOrder},
		"X is beyond MaxNum":        {w, d, 0, area(least, most, 1, 0), api.ErrRange},
		"X is beyond MaxFar":        {w, d, 0, area(0, 1<<28+1, 0, 0), api.ErrRange},
		"X is beyond above":         {w, d, 0, area(0, place+1, 0, 0), api.ErrRange},
		"X is beyond below":         {w, d, 0, area(-place-1, 0, 0, 0), api.ErrRange},
		"Y is beyond above":         {w, d, 0, area(0, 0, 0, place+1), api.ErrRange},
		"Y is beyond below":         {w, d, 0, area(0, 0, -place-1, 0), api.ErrRange},
		"all is beyond":             {w, d, 0, area(place+1, place+1, -place-1, -place-1), api.ErrRange},
	}
}

func TestP3_1Question(t *testing.T) {
	for name, c := range questions() {
		for _, f := range enclosures() {
			r, e := f.f(c.w, c.d, c.tick, c.a)
			if e != c.e || e != api.OK && r != (api.Area{}) {
				t.Error(f.name, name, r, e)
			}
		}
		if r, e := force.One(c.w, -1, c.tick, c.a); r != (api.Area{}) || c.e != api.OK && e != c.e || c.e == api.OK && e != api.ErrMissing {
			t.Error("the body comes last", name, r, e)
		}
	}
}

func TestP3_1Missing(t *testing.T) {
	for _, body := range []int{-1, 2, 3, int(most), int(least)} {
		if r, e := force.One(world(), body, 0, alone(at(0, 0))); r != (api.Area{}) || e != api.ErrMissing {
			t.Error(body, r, e)
		}
	}
	if _, e := force.One(world(), 1, 0, alone(at(0, 0))); e != api.OK {
		t.Error(e)
	}
	if _, e := force.One(world(), 0, -1, alone(at(0, 0))); e != api.ErrRange {
		t.Error(e)
	}
}

func TestP3_1One(t *testing.T) {
	w := world()
	for _, c := range []struct {
		w    api.World
		body int
		tick int64
		a    api.Area
		want api.Area
	}{
		{w, 0, 0, alone(at(50, 0)), area(-400, -400, 0, 0)},
		{w, 0, 0, alone(at(30, 40)), area(-240, -240, -320, -320)},
		{w, 0, 0, alone(at(1, 1)), area(-1000, -1000, -1000, -1000)},
		{w, 0, 0, alone(at(10, 10)), area(-3572, -3333, -3572, -3333)},
		{w, 1, 0, alone(at(50, 0)), area(4, 4, 0, 0)},
		{w, 1, 1, alone(at(50, 0)), area(-1, 0, 0, 1)},
		{w, 1, 2, alone(at(50, 0)), area(4, 4, 0, 0)},
		{w, 1, 1<<30 - 1, alone(at(50, 0)), area(-1, 0, 0, 1)},
		{w, 0, 0, area(40, 50, 0, 0), area(-782, -320, 0, 0)},
		{w, 0, 0, area(-50, -40, 0, 0), area(320, 782, 0, 0)},
		{w, 0, 0, area(0, 0, 40, 50), area(0, 0, -782, -320)},
		{w, 0, 0, area(-50, 40, 0, 0), area(-40000, 50000, 0, 0)},
		{w, 0, 0, alone(at(0, 0)), area(0, 0, 0, 0)},
		{w, 0, 0, alone(at(10, 0)), area(-10000, -10000, 0, 0)},
		{w, 0, 0, alone(at(9, 0)), area(-9000, -9000, 0, 0)},
		{w, 0, 0, alone(at(11, 0)), area(-8265, -8264, 0, 0)},
		// Without a radius the distance is at least 1.
		{single(7, 0, 0, 0), 0, 0, alone(at(0, 0)), area(0, 0, 0, 0)},
		{single(7, 0, 0, 0), 0, 0, alone(at(0, -1)), area(0, 0, 7, 7)},
		{single(7, 0, 0, 0), 0, 0, area(-1, 1, 0, 0), area(-7, 7, 0, 0)},
		{single(7, 1, 0, 0), 0, 0, alone(at(0, -1)), area(0, 0, 7, 7)},
		// Both numbers are rounded twice: 7 / 2 is 3..4, and divided by 1..2 it is 1..4.
		{single(7, 0, 0, 0), 0, 0, alone(at(1, 1)), area(-4, -1, -4, -1)},
		{single(0, 0, 0, 0), 0, 0, area(-9, 9, 3, 4), area(0, 0, 0, 0)},
	} {
		if r, e := force.One(c.w, c.body, c.tick, c.a); r != c.want || e != api.OK {
			t.Error(c.body, c.tick, c.a, r, e)
		}
	}
}

// TestP3_1Limits has pulls that are cut off, products beyond MaxNum, and the greatest worlds.
func TestP3_1Limits(t *testing.T) {
	heavy := single(api.MaxMu, 0, 0, 0)
	for _, c := range []struct {
		w    api.World
		a    api.Area
		want api.Area
	}{
		{single(pull, 0, 0, 0), alone(at(-1, 0)), area(pull, pull, 0, 0)},
		{single(pull+1, 0, 0, 0), alone(at(-1, 0)), area(pull, pull, 0, 0)},
		{single(pull+1, 0, 0, 0), alone(at(1, 0)), area(-pull, -pull, 0, 0)},
		{single(pull-1, 0, 0, 0), alone(at(1, 0)), area(1-pull, 1-pull, 0, 0)},
		{single(4*pull, 0, 0, 0), area(1, 4, 0, 0), area(-pull, -pull/16, 0, 0)},
		{heavy, alone(at(1, 0)), area(-pull, -pull, 0, 0)},
		{heavy, alone(at(0, 0)), area(0, 0, 0, 0)},
		{heavy, area(0, 1024, 0, 0), area(-pull, 0, 0, 0)},
		{heavy, area(0, 1025, 0, 0), area(-pull, 0, 0, 0)},
		{heavy, area(0, 2048, 0, 0), area(-pull, 0, 0, 0)},
		{heavy, area(-2048, 0, 0, 0), area(0, pull, 0, 0)},
		{heavy, area(-2048, 2048, 0, 0), area(-pull, pull, 0, 0)},
		{heavy, area(0, 0, -2048, 0), area(0, 0, 0, pull)},
		{heavy, area(0, 0, 0, 2048), area(0, 0, -pull, 0)},
		{heavy, area(-place, place, -place, place), area(-pull, pull, -pull, pull)},
		{heavy, area(0, place, 0, 0), area(-pull, 0, 0, 0)},
		// In the direction X the quotient by the far end of q is less than 1 << 11: it is the one beyond MaxNum that is cut off.
		{heavy, area(-2048, 0, -place, 0), area(0, pull, 0, pull)},
		{heavy, area(0, 2048, 0, place), area(-pull, 0, -pull, 0)},
		{heavy, alone(at(1<<15, 0)), area(-pull, -pull, 0, 0)},
		{heavy, alone(at(1<<16, 0)), area(-1<<18, -1<<18, 0, 0)},
		{heavy, alone(at(place, 0)), area(-1, -1, 0, 0)},
		{single(api.MaxMu, api.MaxRadius, 0, 0), area(-place, place, -place, place), area(-1<<15, 1<<15, -1<<15, 1<<15)},
		{single(api.MaxMu, api.MaxRadius, place, place), alone(at(-place, -place)), area(0, 1, 0, 1)},
		{single(api.MaxMu, api.MaxRadius, place, -place), alone(at(-place, place)), area(0, 1, -1, 0)},
		{single(api.MaxMu, api.MaxRadius, 0, 0), alone(at(1<<20, 0)), area(-1024, -1024, 0, 0)},
		{single(api.MaxMu, api.MaxRadius, 0, 0), alone(at(1<<19, 0)), area(-512, -512, 0, 0)},
	} {
		if r, e := force.One(c.w, 0, 0, c.a); r != c.want || e != api.OK {
			t.Error(c.w.Bodies[0], c.a, r, e)
		}
	}
}

// TestP3_1Formula holds One against the chapter's steps, computed anew.
func TestP3_1Formula(t *testing.T) {
	d := draw(31)
	cut := 0
	for range 60000 {
		n := []int64{3, 20, 300}[d.below(3)]
		w, a, tick := d.world(30, n), d.area(n), d.below(7)
		for i, b := range w.Bodies {
			r, e := force.One(w, i, tick, a)
			if r != pullOn(b, tick, a) || e != api.OK {
				t.Fatal(b, tick, a, r, e)
			}
			if r.X.Hi == pull || r.Y.Lo == -pull {
				cut++
			}
		}
	}
	if cut < 1000 {
		t.Error("too few pulls are cut off", cut)
	}
}

func TestP3_2Light(t *testing.T) {
	w, d, p := world(), drift(), alone(at(50, 0))
	for _, c := range []struct {
		light api.Span
		a     api.Area
		want  api.Area
	}{
		{d.Light, p, area(0, 40, 0, 0)},
		{of(0, 0), p, area(0, 0, 0, 0)},
		{of(1000, 1000), p, area(400, 400, 0, 0)},
		{of(1, 1), p, area(0, 1, 0, 0)},
		{of(999, 999), p, area(399, 400, 0, 0)},
		{of(0, 1), alone(at(-50, 0)), area(-1, 0, 0, 0)},
		{of(500, 1000), alone(at(30, 40)), area(120, 240, 160, 320)},
		{of(500, 1000), area(40, 50, 0, 0), area(160, 782, 0, 0)},
		{of(500, 1000), alone(at(0, 0)), area(0, 0, 0, 0)},
	} {
		dd := d
		dd.Light = c.light
		if r, e := force.Light(w, dd, 0, c.a); r != c.want || e != api.OK {
			t.Error(c.light, c.a, r, e)
		}
	}
}

func TestP3_2Heat(t *testing.T) {
	w, d, p := world(), drift(), alone(at(50, 0))
	for _, c := range []struct {
		heat api.Span
		a    api.Area
		want api.Area
	}{
		{d.Heat, p, area(0, 0, -4, 4)},
		{of(0, 0), p, area(0, 0, 0, 0)},
		{of(1000, 1000), p, area(0, 0, -400, -400)},
		{of(-1000, -1000), p, area(0, 0, 400, 400)},
		{of(1, 1), p, area(0, 0, -1, 0)},
		{of(-1, -1), p, area(0, 0, 0, 1)},
		{of(1000, 1000), alone(at(30, 40)), area(320, 320, -240, -240)},
		{of(500, 1000), alone(at(30, 40)), area(160, 320, -240, -120)},
		{of(-10, 20), alone(at(0, -50)), area(-8, 4, 0, 0)},
		{of(1, 1), alone(at(0, -50)), area(-1, 0, 0, 0)},
	} {
		dd := d
		dd.Heat = c.heat
		if r, e := force.Heat(w, dd, 0, c.a); r != c.want || e != api.OK {
			t.Error(c.heat, c.a, r, e)
		}
	}
}

// TestP3_2NotValid has drifts that are not valid: their error comes after that of the world, and before that of the tick.
func TestP3_2NotValid(t *testing.T) {
	for _, f := range enclosures()[:3] {
		for _, c := range []struct {
			w    api.World
			d    api.Drift
			tick int64
			e    api.Errno
		}{
			{api.World{}, api.Drift{Light: of(1, 0)}, -1, api.ErrShort},
			{world(), api.Drift{Light: of(1, 0)}, -1, api.ErrOrder},
			{world(), api.Drift{Heat: of(1, 0)}, -1, api.ErrOrder},
			{world(), api.Drift{Gas: -1}, 0, api.ErrRange},
			{world(), api.Drift{Gas: 1001}, 0, api.ErrRange},
		} {
			if r, e := f.f(c.w, c.d, c.tick, area(1, 0, 0, 0)); r != (api.Area{}) || e != c.e {
				t.Error(f.name, c.d, r, e)
			}
		}
	}
}

// TestP3_2Formula holds Light and Heat against the pull of the sun: that of body 0, wherever Home is.
func TestP3_2Formula(t *testing.T) {
	draw := draw(32)
	for range 30000 {
		w, d, a, tick := draw.world(25, 30), draw.drift(), draw.area(30), draw.below(7)
		p := pullOn(w.Bodies[0], tick, a)
		light := api.Area{X: minus(thousandths(d.Light, p.X)), Y: minus(thousandths(d.Light, p.Y))}
		if r, e := force.Light(w, d, tick, a); r != light || e != api.OK {
			t.Fatal("light", w, d, a, r, e)
		}
		heat := api.Area{X: minus(thousandths(d.Heat, p.Y)), Y: thousandths(d.Heat, p.X)}
		if r, e := force.Heat(w, d, tick, a); r != heat || e != api.OK {
			t.Fatal("heat", w, d, a, r, e)
		}
	}
}

func TestP3_3Over(t *testing.T) {
	w, d, n := world(), drift(), api.Drift{}
	greatest := api.Drift{Light: of(1000, 1000), Heat: of(-1000, 1000), Gas: 1000}
	eight := api.World{}
	for range 8 {
		eight.Bodies = append(eight.Bodies, single(api.MaxMu, 0, 0, 0).Bodies[0])
	}
	for _, c := range []struct {
		w    api.World
		d    api.Drift
		tick int64
		a    api.Area
		want api.Area
	}{
		{w, n, 0, alone(at(50, 0)), area(-396, -396, 0, 0)},
		{w, n, 1, alone(at(50, 0)), area(-401, -400, 0, 1)},
		{w, d, 0, alone(at(50, 0)), area(-397, -355, -5, 5)},
		{w, api.Drift{Gas: 1000}, 0, alone(at(50, 0)), area(-1396, 604, -1000, 1000)},
		{w, greatest, 0, alone(at(50, 0)), area(-996, 1004, -1400, 1400)},
		{eight, n, 0, alone(at(1, 0)), area(-8*pull, -8*pull, 0, 0)}, // the sum is not cut off
		{eight, greatest, 0, alone(at(1, 0)), area(-7*pull-1000, -7*pull+1000, -pull-1000, pull+1000)},
		{eight, n, 0, area(-place, place, -place, place), area(-8*pull, 8*pull, -8*pull, 8*pull)},
	} {
		if r, e := force.Over(c.w, c.d, c.tick, c.a); r != c.want || e != api.OK {
			t.Error(c.d, c.tick, c.a, r, e)
		}
	}
}

// TestP3_3Pull has Pull at places that are right, and at others.
func TestP3_3Pull(t *testing.T) {
	w, d := world(), drift()
	for _, p := range []api.Vec{at(50, 0), at(30, 40), at(0, 0), at(place, -place)} {
		want, _ := force.Over(w, d, 1, alone(p))
		if r, e := force.Pull(w, d, 1, p); r != want || e != api.OK {
			t.Error(p, r, e)
		}
	}
	for name, c := range questions() {
		p := at(c.a.X.Hi, c.a.Y.Hi)
		want, e := force.Over(c.w, c.d, c.tick, alone(p))
		if r, f := force.Pull(c.w, c.d, c.tick, p); r != want || f != e {
			t.Error(name, r, f, want, e)
		}
	}
	for _, p := range []api.Vec{at(place+1, 0), at(0, -place-1), at(least, 0), at(0, most), at(1<<28+1, 0)} {
		if r, e := force.Pull(w, d, 0, p); r != (api.Area{}) || e != api.ErrRange {
			t.Error(p, r, e)
		}
	}
	if r, e := force.Pull(w, api.Drift{Light: of(1, 0)}, -1, at(place+1, 0)); r != (api.Area{}) || e != api.ErrOrder {
		t.Error(r, e)
	}
}

func TestP3_4Energy(t *testing.T) {
	state := func(x, y, u, v int64) api.State { return api.State{X: x, Y: y, U: u, V: v} }
	heavy := api.World{}
	for range 8 {
		heavy.Bodies = append(heavy.Bodies, single(api.MaxMu, 0, 0, 0).Bodies[0])
	}
	for _, c := range []struct {
		w    api.World
		tick int64
		s    api.State
		want api.Span
	}{
		{world(), 0, state(50, 0, 100, 0), of(-30400, -30400)},
		{world(), 0, state(50, 0, 0, -100), of(-30400, -30400)},
		{world(), 0, state(50, 0, -3, 4), of(-40375, -40375)},
		{world(), 1, state(50, 0, 100, 0), of(-30182, -30178)}, // 10000 / 111.8: 111..112, so 89..91
		{world(), 0, state(5, 0, 0, 0), of(-200212, -200210)},  // on the edge of the sun; 10000 / 95 is 105..106
		{world(), 0, state(100, 0, 0, 0), of(-30000, -30000)},  // on the edge of the body 1
		{single(7, 0, 0, 0), 0, state(0, 0, 0, 0), of(-14, -14)},
		{single(7, 0, 0, 0), 0, state(1, 1, 1, 1), of(-12, -4)}, // 7 / 1..2
		{single(0, 0, 0, 0), 0, state(0, 0, 1<<20, -1<<20), of(1<<41, 1<<41)},
		{heavy, 1 << 30, state(1, 0, 0, 0), of(-1<<54, -1<<54)},
		{single(api.MaxMu, api.MaxRadius, place, place), 0, state(-place, -place, 0, 0), of(-23726568, -23726566)},
	} {
		if r, e := force.Energy(c.w, c.tick, c.s); r != c.want || e != api.OK {
			t.Error(c.s, r, e)
		}
	}
	fast := state(0, 0, 1<<20+1, 0)
	for name, c := range questions() {
		s := state(c.a.X.Hi, c.a.Y.Hi, 1<<20+1, 0)
		_, e := force.One(c.w, 0, c.tick, alone(at(s.X, s.Y)))
		if e == api.OK {
			e = api.ErrRange
		}
		if r, f := force.Energy(c.w, c.tick, s); r != of(0, 0) || f != e {
			t.Error(name, r, f)
		}
	}
	for _, s := range []api.State{fast, state(0, 0, -1<<20-1, 0), state(0, 0, 0, 1<<20+1), state(0, 0, 0, least), state(0, 0, most, 0), state(place+1, 0, 0, 0), state(0, least, 0, 0)} {
		if r, e := force.Energy(world(), 0, s); r != of(0, 0) || e != api.ErrRange {
			t.Error(s, r, e)
		}
	}
	if _, e := force.Energy(api.World{}, 0, fast); e != api.ErrShort {
		t.Error(e)
	}
}

// TestP3_4Formula holds Energy against its terms, computed anew.
func TestP3_4Formula(t *testing.T) {
	d := draw(34)
	for range 30000 {
		w, tick := d.world(40, 60), d.below(7)
		s := api.State{X: d.upTo(60), Y: d.upTo(60), U: d.upTo(1000), V: d.upTo(1000)}
		want := of(s.U*s.U+s.V*s.V, s.U*s.U+s.V*s.V)
		for _, b := range w.Bodies {
			c := where(b, tick)
			q := max(1, b.Radius*b.Radius, (c.X-s.X)*(c.X-s.X)+(c.Y-s.Y)*(c.Y-s.Y))
			want = of(want.Lo-2*ceil(b.Mu, root(q)), want.Hi-2*floor(b.Mu, rootUp(q)))
		}
		if r, e := force.Energy(w, tick, s); r != want || e != api.OK {
			t.Fatal(w, tick, s, r, e)
		}
	}
}

func TestP3_5Ruler(t *testing.T) {
	sun := func(mu, x int64) api.Body { return api.Body{Mu: mu, Radius: 10, Track: []api.Vec{at(x, 0)}} }
	twins := api.World{Bodies: []api.Body{sun(1000000, 0), sun(1000000, 10)}}
	for _, c := range []struct {
		w    api.World
		tick int64
		p    api.Vec
		n    int
		ok   bool
	}{
		{world(), 0, at(50, 0), 0, true},
		{world(), 0, at(99, 0), 1, true},
		{world(), 1, at(99, 0), 0, true},
		{world(), 1, at(0, 99), 1, true},
		{world(), 0, at(100, 0), 0, true}, // in the middle of the body 1 it does not pull
		{twins, 0, at(5, 0), 0, false},
		{twins, 0, at(4, 0), 1, true}, // within the radius the nearer one is not the stronger one
		{twins, 0, at(0, 0), 1, true},
		{twins, 0, at(10, 0), 0, true},
		{twins, 0, at(-100, 0), 0, true},
		{twins, 0, at(100, 0), 1, true},
		{twins, 0, at(place, 0), 0, false},
		{single(0, 0, 0, 0), 0, at(0, 0), 0, true},
		{single(5, 0, 0, 0), 1 << 30, at(7, 7), 0, true},
		{api.World{Bodies: []api.Body{sun(0, 0), sun(0, 10)}}, 0, at(5, 5), 0, false},
		{api.World{Bodies: []api.Body{sun(0, 0), sun(1000000, 10)}}, 0, at(5, 0), 1, true},
		{api.World{Bodies: []api.Body{sun(1000000, 0), sun(1000000, 0), sun(1000000, 7)}}, 0, at(200, 0), 2, true},
		{api.World{Bodies: []api.Body{sun(1000000, 0), sun(1000000, 0), sun(100, 7)}}, 0, at(200, 0), 0, false},
		// The pulls of both lie in -4..-1 at (1, 1): neither is surely the stronger one.
		{api.World{Bodies: []api.Body{single(7, 0, 0, 0).Bodies[0], single(6, 0, 0, 0).Bodies[0]}}, 0, at(1, 1), 0, false},
	} {
		if n, ok := force.Ruler(c.w, c.tick, c.p); n != c.n || ok != c.ok {
			t.Error(c.w, c.tick, c.p, n, ok)
		}
	}
	for name, c := range questions() {
		p := at(c.a.X.Hi, c.a.Y.Hi)
		_, e := force.One(c.w, 0, c.tick, alone(p))
		if n, ok := force.Ruler(c.w, c.tick, p); e != api.OK && (n != 0 || ok) {
			t.Error(name, n, ok)
		}
	}
	for _, p := range []api.Vec{at(place+1, 0), at(0, least)} {
		if n, ok := force.Ruler(single(5, 0, 0, 0), 0, p); n != 0 || ok {
			t.Error(p, n, ok)
		}
	}
	for _, tick := range []int64{-1, 1<<30 + 1} {
		if n, ok := force.Ruler(single(5, 0, 0, 0), tick, at(0, 0)); n != 0 || ok {
			t.Error(tick, n, ok)
		}
	}
}

// TestP3_5Formula holds Ruler against the squares of the pulls, computed anew.
func TestP3_5Formula(t *testing.T) {
	d := draw(35)
	count := map[int]int{}
	for range 30000 {
		w, tick, p := d.world(20, 30), d.below(7), at(d.upTo(30), d.upTo(30))
		want, found := 0, false
		for i, b := range w.Bodies {
			r, rules := pullOn(b, tick, alone(p)), true
			for j, other := range w.Bodies {
				o := pullOn(other, tick, alone(p))
				rules = rules && (i == j || leastSquare(r.X)+leastSquare(r.Y) > mostSquare(o.X)+mostSquare(o.Y))
			}
			if rules {
				want, found = i, true
			}
		}
		if n, ok := force.Ruler(w, tick, p); n != want || ok != found {
			t.Fatal(w, tick, p, n, ok)
		}
		if !found {
			want = -1
		}
		count[want]++
	}
	if count[-1] < 500 || count[1] < 500 || count[3] < 500 {
		t.Error("too few cases", count)
	}
}
