package council_test

import (
	"slices"
	"testing"

	"bolide/api"
	"bolide/council"
)

func TestP9_4Of(t *testing.T) {
	l := api.Ledger{Facts: []api.Known{{Target: 9, Level: 1, Item: 3, Chance: at(1)}, {Target: 2, Item: 4}, {Target: 9, Level: 2, Item: 5}, {Target: -7, Item: 6}, {Target: 5000, Item: 7}, {Item: 8}}}
	for target, n := range map[int]int{9: 0, 2: 1, -7: 3, 5000: 4, 0: 5} {
		if k, ok := council.Of(l, target); !ok || k != l.Facts[n] {
			t.Error(target, k, ok)
		}
	}
	for _, target := range []int{1, 3, -9, int(most), int(least)} {
		if k, ok := council.Of(l, target); ok || k != (api.Known{}) {
			t.Error(target, k, ok)
		}
	}
	if k, ok := council.Of(api.Ledger{}, 0); ok || k != (api.Known{}) {
		t.Error(k, ok)
	}
	h := built(lawful(), then(known(), drill(fact(2, 9, at(2)))))
	if k, ok := council.Of(h.Real, 9); !ok || k.Level != 1 {
		t.Error(k, ok)
	}
	if k, ok := council.Of(h.Drill, 9); !ok || k.Level != 2 {
		t.Error(k, ok)
	}
	if k, ok := council.Of(h.Drill, 5); ok {
		t.Error(k, ok)
	}
}

func TestP9_4Passed(t *testing.T) {
	motion := func(target, act, state int) api.Motion { return api.Motion{Target: target, Act: act, State: state} }
	l := api.Ledger{Motions: []api.Motion{
		motion(9, 7, api.MotionPassed), motion(9, 7, api.MotionPassed), motion(9, 7, api.MotionFailed), motion(5, 7, api.MotionPassed), motion(9, 8, api.MotionOpen), motion(9, 6, api.MotionVoid), motion(9, 4, 0), motion(-1, -2, api.MotionPassed), motion(9, 3, 5),
	}}
	for _, x := range []struct{ target, act, want int }{{9, 7, 1}, {5, 7, 3}, {9, 8, -1}, {9, 6, -1}, {9, 4, -1}, {9, 3, -1}, {-1, -2, 7}, {7, 9, -1}, {5, 8, -1}, {8, 7, -1}} {
		if n, ok := council.Passed(l, x.target, x.act); n != x.want || ok != (x.want >= 0) {
			t.Error(x, n, ok)
		}
	}
	if n, ok := council.Passed(api.Ledger{}, 0, 0); n != -1 || ok {
		t.Error(n, ok)
	}
	h := built(lawful(), then(voted(), vote(6, 0, 3, true), closed(15, 0), move(16, 9, 7)))
	if n, ok := council.Passed(h.Real, 9, 7); n != 0 || !ok {
		t.Error(n, ok)
	}
	if n, ok := council.Passed(h.Drill, 9, 7); n != -1 || ok {
		t.Error(n, ok)
	}
}

func TestP9_4Alarms(t *testing.T) {
	for name, x := range faultyCouncils() {
		if l, e := council.Alarms(x.c, known()); len(l) != 0 || e != x.want {
			t.Error(name, l, e)
		}
	}
	if l, e := council.Alarms(lawful(), slices.Repeat(items(fact(9, 9, at(1))), 2001)); len(l) != 0 || e != api.ErrFull {
		t.Error(l, e)
	}
	if l, e := council.Alarms(lawful(), then(known(), move(2, 4, 7))); len(l) != 0 || e != api.ErrMissing {
		t.Error(l, e)
	}
	l, e := council.Alarms(lawful(), then(known(), drill(fact(3, 9, at(2))), fact(4, 9, at(0)), drill(fact(5, 9, at(0))), fact(6, 9, at(0))))
	if want := []api.Alarm{alarm(1, 9, 1, false), alarm(2, 5, 2, false), alarm(4, 9, 0, true)}; !slices.Equal(l, want) || e != api.OK {
		t.Error(l, e)
	}
	for _, l := range [][]api.Item{nil, items(fact(1, 9, at(0))), drills(known()...)} {
		if l, e := council.Alarms(lawful(), l); len(l) != 0 || e != api.OK {
			t.Error(l, e)
		}
	}
}

func TestP9_4Why(t *testing.T) {
	for name, x := range faultyCouncils() {
		if c, e := council.Why(x.c, known(), -1); c != (api.Chance{}) || e != x.want {
			t.Error(name, c, e)
		}
	}
	later := chance(1, 3, 1000)
	decided := then(voted(), fact(7, 5, at(2)), drill(fact(7, 9, at(2))), fact(8, 9, later), drill(fact(8, 9, at(1))), vote(9, 0, 3, true), closed(15, 0))
	void := then(voted(), drill(fact(7, 9, at(0))), fact(8, 9, chance(0, 0, 77)), fact(9, 9, at(1)), move(9, 9, 7))
	for name, x := range map[string]struct {
		l      []api.Item
		motion int
		want   api.Chance
		e      api.Errno
	}{
		"passed":                {decided, 0, later, api.OK},
		"passed, facts behind":  {then(decided, fact(16, 9, at(0))), 0, later, api.OK},
		"failed":                {then(moved(), closed(15, 0)), 0, at(1), api.OK},
		"void":                  {void, 0, chance(0, 0, 77), api.OK},
		"open":                  {void, 1, api.Chance{}, api.ErrState},
		"none":                  {void, 2, api.Chance{}, api.ErrMissing},
		"below 0":               {void, -1, api.Chance{}, api.ErrMissing},
		"wild":                  {void, int(most), api.Chance{}, api.ErrMissing},
		"no items":              {nil, 0, api.Chance{}, api.ErrMissing},
		"of an exercise":        {drills(decided...), 0, api.Chance{}, api.ErrMissing},
		"error of Build":        {then(decided, closed(15, 0)), 0, api.Chance{}, api.ErrState},
		"error of Build, none":  {then(decided, move(15, 4, 7)), -1, api.Chance{}, api.ErrMissing},
		"error of Build, late":  {then(decided, fact(1, 9, at(1))), 9, api.Chance{}, api.ErrOrder},
		"too many":              {make([]api.Item, 2001), 0, api.Chance{}, api.ErrFull},
		"exercises before":      {then(drills(known()...), fact(2, 5, at(2)), drill(fact(2, 5, at(1))), fact(2, 9, later), drill(fact(2, 9, at(2))), move(2, 9, 7), closed(13, 0)), 0, later, api.OK},
		"as the first real one": {then(drills(known()...), fact(2, 9, later), move(2, 9, 7), closed(13, 0)), 0, later, api.OK},
	} {
		if c, e := council.Why(lawful(), x.l, x.motion); c != x.want || e != x.e {
			t.Error(name, c, e)
		}
	}
}

// changes are what may be changed in a house of which all lists have something.
func changes() map[string]func(*api.House) {
	l := map[string]func(*api.House){"tick": func(h *api.House) { h.Tick++ }}
	for name, own := range map[string]func(*api.House) *api.Ledger{
		"real ":  func(h *api.House) *api.Ledger { return &h.Real },
		"drill ": func(h *api.House) *api.Ledger { return &h.Drill },
	} {
		for what, change := range map[string]func(*api.Ledger){
			"items":         func(x *api.Ledger) { x.Items++ },
			"no facts":      func(x *api.Ledger) { x.Facts = nil },
			"fewer facts":   func(x *api.Ledger) { x.Facts = x.Facts[:1] },
			"target":        func(x *api.Ledger) { x.Facts[1].Target++ },
			"level":         func(x *api.Ledger) { x.Facts[1].Level++ },
			"item":          func(x *api.Ledger) { x.Facts[0].Item++ },
			"least":         func(x *api.Ledger) { x.Facts[0].Chance.Least++ },
			"most":          func(x *api.Ledger) { x.Facts[0].Chance.Most++ },
			"all":           func(x *api.Ledger) { x.Facts[0].Chance.All++ },
			"facts' order":  func(x *api.Ledger) { slices.Reverse(x.Facts) },
			"no motions":    func(x *api.Ledger) { x.Motions = nil },
			"more motions":  func(x *api.Ledger) { x.Motions = append(x.Motions, api.Motion{}) },
			"its target":    func(x *api.Ledger) { x.Motions[0].Target++ },
			"act":           func(x *api.Ledger) { x.Motions[0].Act++ },
			"opened":        func(x *api.Ledger) { x.Motions[0].Opened++ },
			"state":         func(x *api.Ledger) { x.Motions[0].State++ },
			"yes":           func(x *api.Ledger) { x.Motions[0].Yes++ },
			"no":            func(x *api.Ledger) { x.Motions[0].No++ },
			"fact":          func(x *api.Ledger) { x.Motions[0].Fact++ },
			"no one voted":  func(x *api.Ledger) { x.Motions[0].Voted = nil },
			"another voted": func(x *api.Ledger) { x.Motions[0].Voted[1]++ },
			"voted's order": func(x *api.Ledger) { slices.Reverse(x.Motions[0].Voted) },
			"nothing sent":  func(x *api.Ledger) { x.Sent = nil },
			"sent at":       func(x *api.Ledger) { x.Sent[1].Tick++ },
			"sent on":       func(x *api.Ledger) { x.Sent[1].Target++ },
			"sent level":    func(x *api.Ledger) { x.Sent[1].Level++ },
			"sent back":     func(x *api.Ledger) { x.Sent[1].Back = !x.Sent[1].Back },
			"more sent":     func(x *api.Ledger) { x.Sent = append(x.Sent, api.Alarm{}) },
		} {
			l[name+what] = func(h *api.House) { change(own(h)) }
		}
	}
	return l
}

func TestP9_4Same(t *testing.T) {
	h := built(lawful(), then(voted(), vote(6, 0, 3, true)))
	h.Drill = cloneLedger(h.Real)
	if !council.Same(h, clone(h)) {
		t.Error(h)
	}
	for name, change := range changes() {
		other := clone(h)
		change(&other)
		if council.Same(h, other) || council.Same(other, h) || !council.Same(other, clone(other)) {
			t.Error(name)
		}
	}
	empty := api.Ledger{Facts: []api.Known{}, Motions: []api.Motion{}, Sent: []api.Alarm{}}
	if !council.Same(api.House{}, api.House{Real: empty, Drill: empty}) || !council.Same(api.House{Real: empty, Drill: empty}, api.House{}) {
		t.Error("nil and empty")
	}
	none, nobody := api.Ledger{Motions: make([]api.Motion, 1)}, api.Ledger{Motions: []api.Motion{{Voted: []int{}}}}
	if !council.Same(api.House{Real: none}, api.House{Real: nobody}) || council.Same(api.House{Real: none}, api.House{Drill: none}) {
		t.Error("nil and empty votes")
	}
}
