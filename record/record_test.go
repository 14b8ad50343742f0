package record_test

import (
	"reflect"
	"slices"
	"testing"

	"bolide/api"
	"bolide/record"
)

// fault is a change of a file, and the error that it then has.
type fault struct {
	name   string
	change func(f *api.File)
	e      api.Errno
}

// startFaults are errors of files, but for those of entries, in the order of the chapter, in groups: of errors of one group the first one is not tested.
func startFaults() [][]fault {
	return [][]fault{
		{
			{"no bodies", func(f *api.File) { f.Sky.World.Bodies = nil }, api.ErrShort},
			{"9 bodies", func(f *api.File) { f.Sky.World.Bodies = slices.Repeat(f.Sky.World.Bodies[:1], 9) }, api.ErrFull},
			{"mass", func(f *api.File) { f.Sky.World.Bodies[1].Mu = -1 }, api.ErrRange},
			{"no track", func(f *api.File) { f.Sky.World.Bodies[0].Track = nil }, api.ErrShort},
			{"long track", func(f *api.File) { f.Sky.World.Bodies[0].Track = make([]api.Vec, 4097) }, api.ErrFull},
			{"place", func(f *api.File) { f.Sky.World.Bodies[0].Track[0].X = place + 1 }, api.ErrRange},
			{"no home", func(f *api.File) { f.Sky.World.Home = 2 }, api.ErrMissing},
			{"17 stations", func(f *api.File) { f.Sky.Stations = make([]api.Station, 17) }, api.ErrFull},
			{"station", func(f *api.File) { f.Sky.Stations[1].ID = 1 }, api.ErrOrder},
			{"catalog", func(f *api.File) { f.Sky.Catalogs[0].Bias.Lo = 1 }, api.ErrRange},
		},
		{
			{"light", func(f *api.File) { f.Drift.Light = of(2, 1) }, api.ErrOrder},
			{"heat", func(f *api.File) { f.Drift.Heat = of(-1001, 0) }, api.ErrRange},
			{"gas", func(f *api.File) { f.Drift.Gas = -1 }, api.ErrRange},
		},
		{
			{"tick -1", func(f *api.File) { f.Tick = -1 }, api.ErrRange},
			{"late tick", func(f *api.File) { f.Tick = end - 799 }, api.ErrRange},
			{"least tick", func(f *api.File) { f.Tick = least }, api.ErrRange},
			{"greatest tick", func(f *api.File) { f.Tick = most }, api.ErrRange},
		},
		{
			{"513 boxes", func(f *api.File) { f.Set = slices.Repeat(boxes(api.Box{X: of(1, 0)}), 513) }, api.ErrFull},
			{"box", func(f *api.File) {
				f.Set = slices.Insert(slices.Repeat(boxes(api.Box{}), 21), 20, api.Box{V: of(1, 0)})
			}, api.ErrRange},
			{"far box", func(f *api.File) { f.Set[0].X.Hi = place + 1 }, api.ErrRange},
			{"fast box", func(f *api.File) { f.Set[1].U.Lo = -speed - 1 }, api.ErrRange},
		},
		{
			{"21 boxes", func(f *api.File) { f.Set = make([]api.Box, 21) }, api.ErrFull},
			{"512 boxes", func(f *api.File) { f.Set = make([]api.Box, 512) }, api.ErrFull},
			{"61 entries", func(f *api.File) { f.Entries = make([]api.Entry, 61) }, api.ErrFull},
			{"61 valid entries", func(f *api.File) { f.Entries = slices.Repeat(f.Entries[9:], 61) }, api.ErrFull},
		},
	}
}

// entryFaults are errors of entries, in the order of the chapter, in groups, for each kind of entries: the changes are for the entry with the number.
func entryFaults() map[int][][]fault {
	kind := func(n int) [][]fault {
		x := func(f *api.File) *api.Entry { return &f.Entries[n] }
		return [][]fault{
			{
				{"kind 0", func(f *api.File) { x(f).Kind = 0 }, api.ErrKind},
				{"kind 5", func(f *api.File) { x(f).Kind = 5 }, api.ErrKind},
				{"kind -1", func(f *api.File) { x(f).Kind = -1 }, api.ErrKind},
				{"greatest kind", func(f *api.File) { x(f).Kind = int(most) }, api.ErrKind},
				{"least kind", func(f *api.File) { x(f).Kind = int(least) }, api.ErrKind},
			},
			{
				{"known early", func(f *api.File) { x(f).Known = 19 }, api.ErrRange},
				{"known late", func(f *api.File) { x(f).Known = 421 }, api.ErrRange},
				{"least known", func(f *api.File) { x(f).Known = least }, api.ErrRange},
				{"greatest known", func(f *api.File) { x(f).Known = most }, api.ErrRange},
			},
			{{"known before", func(f *api.File) { f.Entries[n-1].Known = 27; x(f).Known = 26 }, api.ErrOrder}},
		}
	}
	seen := func(change func(x *api.Sight)) func(f *api.File) {
		return func(f *api.File) { change(&f.Entries[8].Sight) }
	}
	made := func(change func(x *api.Entry)) func(f *api.File) {
		return func(f *api.File) { change(&f.Entries[9]) }
	}
	return map[int][][]fault{
		api.EntrySight: append(kind(8), []fault{
			{"sight kind 0", seen(func(x *api.Sight) { x.Kind = 0; x.Tick = 99 }), api.ErrKind},
			{"sight kind 4", seen(func(x *api.Sight) { x.Kind = 4 }), api.ErrKind},
			{"sight tick", seen(func(x *api.Sight) { x.Tick = -1 }), api.ErrRange},
			{"no station", seen(func(x *api.Sight) { x.Station = 2; x.Tick = 99 }), api.ErrMissing},
			{"no catalog", seen(func(x *api.Sight) { x.Catalog = 2; x.Tick = 0 }), api.ErrMissing},
			{"no direction", seen(func(x *api.Sight) { x.Dir = api.Vec{} }), api.ErrRange},
			{"reach", seen(func(x *api.Sight) { x.Hi = 0 }), api.ErrRange},
		}, []fault{
			{"seen before the file", seen(func(x *api.Sight) { x.Tick = 19 }), api.ErrRange},
			{"seen at 0", seen(func(x *api.Sight) { x.Tick = 0 }), api.ErrRange},
			{"seen after it was known", seen(func(x *api.Sight) { x.Tick = 28 }), api.ErrRange},
			{"seen at the end", seen(func(x *api.Sight) { x.Tick = end }), api.ErrRange},
		}),
		api.EntryDrift: append(kind(7), []fault{
			{"drift light", func(f *api.File) { f.Entries[7].Drift.Light = of(2, 1) }, api.ErrOrder},
			{"drift heat", func(f *api.File) { f.Entries[7].Drift.Heat = of(0, 1001) }, api.ErrRange},
			{"drift gas", func(f *api.File) { f.Entries[7].Drift.Gas = 1001 }, api.ErrRange},
		}),
		api.EntryBack: append(kind(6), []fault{
			{"back -1", func(f *api.File) { f.Entries[6].Back = -1 }, api.ErrMissing},
			{"least back", func(f *api.File) { f.Entries[6].Back = int(least) }, api.ErrMissing},
			{"greatest back", func(f *api.File) { f.Entries[6].Back = int(most) }, api.ErrMissing},
			{"back itself", func(f *api.File) { f.Entries[6].Back = 6 }, api.ErrMissing},
			{"back later", func(f *api.File) { f.Entries[6].Back = 7 }, api.ErrMissing},
			{"back none", func(f *api.File) { f.Entries[6].Back = 10 }, api.ErrMissing},
			{"back a decision", func(f *api.File) { f.Entries[6].Back = 3 }, api.ErrMissing},
			{"back a drill's decision", func(f *api.File) { f.Entries[6].Back = 4 }, api.ErrMissing},
			{"back a withdrawal", func(f *api.File) { f.Entries[6].Back = 5 }, api.ErrMissing},
		}, []fault{
			{"back a real one", func(f *api.File) { f.Entries[6].Back = 1 }, api.ErrExercise},
			{"back a real one twice", func(f *api.File) { f.Entries[6].Back = 0 }, api.ErrExercise},
			{"back a drill for real", func(f *api.File) { f.Entries[6].Exercise = false }, api.ErrExercise},
		}, []fault{
			{"back twice", func(f *api.File) { f.Entries[6] = back(24, 0) }, api.ErrExists},
			{"back twice later", func(f *api.File) { f.Entries[9] = back(420, 0) }, api.ErrExists},
			{"back twice in a drill", func(f *api.File) { f.Entries[9] = drill(back(420, 2)) }, api.ErrExists},
		}),
		api.EntryDecide: append(kind(9), []fault{
			{"ahead 0", made(func(x *api.Entry) { x.Ahead = 0 }), api.ErrRange},
			{"ahead 401", made(func(x *api.Entry) { x.Ahead = 401 }), api.ErrRange},
			{"least ahead", made(func(x *api.Entry) { x.Ahead = int(least) }), api.ErrRange},
			{"out 0", made(func(x *api.Entry) { x.Outcome.Out = 0 }), api.ErrRange},
			{"out 6", made(func(x *api.Entry) { x.Outcome.Out = 6 }), api.ErrRange},
			{"left -1", made(func(x *api.Entry) { x.Outcome.Left = -1 }), api.ErrRange},
			{"left 513", made(func(x *api.Entry) { x.Outcome.Left = 513 }), api.ErrRange},
			{"miss -1", made(func(x *api.Entry) { x.Outcome.Miss = -1 }), api.ErrRange},
			{"miss 513", made(func(x *api.Entry) { x.Outcome.Miss = 513 }), api.ErrRange},
			{"hit -1", made(func(x *api.Entry) { x.Outcome.Hit = -1 }), api.ErrRange},
			{"hit 513", made(func(x *api.Entry) { x.Outcome.Hit = 513 }), api.ErrRange},
		}),
	}
}

// faults are all faults, group by group.
func faults() []fault {
	l := slices.Concat(startFaults()...)
	for kind := range 5 {
		l = append(l, slices.Concat(entryFaults()[kind]...)...)
	}
	return l
}

// spoilt is the full file with some faults.
func spoilt(l ...fault) api.File {
	f := full()
	for _, x := range l {
		x.change(&f)
	}
	return f
}

func TestP10_1Check(t *testing.T) {
	if e := record.Check(full()); e != api.OK {
		t.Error("full", e)
	}
	if e := record.Check(example()); e != api.OK {
		t.Error("example", e)
	}
	for _, x := range faults() {
		if e := record.Check(spoilt(x)); e != x.e {
			t.Error(x.name, e)
		}
	}
}

// TestP10_1Order has two faults at once, the first one of which counts.
func TestP10_1Order(t *testing.T) {
	check := func(first, second fault) {
		t.Helper()
		// One of both may replace what the other one is about: then the other order has both.
		if e, f := record.Check(spoilt(first, second)), record.Check(spoilt(second, first)); e != first.e && f != first.e {
			t.Error(first.name, second.name, e, f)
		}
	}
	kind := fault{"first entry", func(f *api.File) {
		if len(f.Entries) > 0 {
			f.Entries[0].Kind = 0
		}
	}, api.ErrKind}
	starts := startFaults()
	for i, group := range starts {
		for _, first := range group {
			for _, second := range slices.Concat(starts[i+1:]...) {
				check(first, second)
			}
			check(first, kind)
		}
	}
	last := fault{"last entry", func(f *api.File) { f.Entries[9].Outcome.Out = 0 }, api.ErrRange}
	for n, groups := range entryFaults() {
		for _, x := range slices.Concat(groups...) {
			check(kind, x)
			if n == api.EntrySight || n == api.EntryDrift {
				check(x, last)
			}
		}
	}
}

// TestP10_1OneEntry checks the order inside of an entry, where one change has all its faults.
func TestP10_1OneEntry(t *testing.T) {
	bad := api.Entry{Kind: 0, Known: 19, Sight: api.Sight{Kind: 9}, Drift: api.Drift{Light: of(2, 1)}, Back: -1}
	for i, c := range []struct {
		change func(x *api.Entry)
		e      api.Errno
	}{
		{func(x *api.Entry) {}, api.ErrKind},
		{func(x *api.Entry) { x.Kind = 1 }, api.ErrRange}, {func(x *api.Entry) { x.Kind = 2 }, api.ErrRange},
		{func(x *api.Entry) { x.Kind = 3 }, api.ErrRange}, {func(x *api.Entry) { x.Kind = 4 }, api.ErrRange},
		{func(x *api.Entry) { x.Kind, x.Known = 1, 24 }, api.ErrOrder}, {func(x *api.Entry) { x.Kind, x.Known = 2, 24 }, api.ErrOrder},
		{func(x *api.Entry) { x.Kind, x.Known = 3, 24 }, api.ErrOrder}, {func(x *api.Entry) { x.Kind, x.Known = 4, 24 }, api.ErrOrder},
		{func(x *api.Entry) { x.Kind, x.Known = 1, 25 }, api.ErrKind}, {func(x *api.Entry) { x.Kind, x.Known = 2, 25 }, api.ErrOrder},
		{func(x *api.Entry) { x.Kind, x.Known = 3, 25 }, api.ErrMissing}, {func(x *api.Entry) { x.Kind, x.Known = 4, 25 }, api.ErrRange},
		{func(x *api.Entry) { x.Kind, x.Known, x.Drift = 2, 25, api.Drift{} }, api.OK},
		{func(x *api.Entry) { x.Kind, x.Known, x.Sight = 1, 25, distance(26, 0, 5) }, api.ErrRange},
		{func(x *api.Entry) { x.Kind, x.Known, x.Sight = 1, 25, distance(25, 0, 5) }, api.OK},
		{func(x *api.Entry) { x.Kind, x.Known, x.Back = 3, 25, 1 }, api.OK},
		{func(x *api.Entry) { x.Kind, x.Known, x.Back = 3, 25, 0 }, api.ErrExists},
		{func(x *api.Entry) { x.Kind, x.Known, x.Back = 3, 25, 2 }, api.ErrExercise}, // withdrawn before, too
		{func(x *api.Entry) { x.Kind, x.Known, x.Ahead, x.Outcome = 4, 25, 1, lost() }, api.OK},
	} {
		f := full()
		f.Entries = append(f.Entries[:9], bad)
		c.change(&f.Entries[9])
		if e := record.Check(f); e != c.e {
			t.Error(i, e)
		}
	}
}

// TestP10_1Valid has files at the limits.
func TestP10_1Valid(t *testing.T) {
	for name, change := range map[string]func(f *api.File){
		"tick 0":            func(f *api.File) { f.Tick, f.Entries = 0, nil },
		"last tick":         func(f *api.File) { f.Tick, f.Entries = end-800, nil },
		"last known":        func(f *api.File) { f.Tick, f.Entries = end-800, []api.Entry{decide(end-400, 400, lost())} },
		"no boxes":          func(f *api.File) { f.Set = nil },
		"20 boxes":          func(f *api.File) { f.Set = slices.Repeat(f.Set, 10) },
		"no entries":        func(f *api.File) { f.Entries = []api.Entry{} },
		"60 entries":        func(f *api.File) { f.Entries = slices.Repeat(f.Entries[9:], 60) },
		"60 sights":         func(f *api.File) { f.Entries = slices.Repeat(f.Entries[:1], 60) },
		"first known":       func(f *api.File) { f.Entries[0].Known = 20 },
		"last known of all": func(f *api.File) { f.Entries[9].Known = 420 },
		"all at once":       func(f *api.File) { f.Entries = []api.Entry{drift(420, f.Drift), decide(420, 1, lost()), back(420, 0)} },
		"seen at the end":   func(f *api.File) { f.Entries[8].Sight.Tick = 25 },
		"seen first":        func(f *api.File) { f.Entries[8].Sight.Tick = 20 },
		"ahead 1":           func(f *api.File) { f.Entries[9].Ahead = 1 },
		"ahead 400":         func(f *api.File) { f.Entries[9].Ahead = 400 },
		"out 1":             func(f *api.File) { f.Entries[9].Outcome = outcome(1, 0, 0, 0) },
		"out 5":             func(f *api.File) { f.Entries[9].Outcome = outcome(5, 512, 512, 512) },
		"back the same again after another one": func(f *api.File) {
			f.Entries = []api.Entry{drift(20, f.Drift), back(20, 0), drift(20, f.Drift), back(20, 2)}
		},
		"back a drift": func(f *api.File) { f.Entries[9] = back(420, 1) },
	} {
		f := full()
		change(&f)
		if e := record.Check(f); e != api.OK {
			t.Error(name, e)
		}
	}
	d := draw(101)
	for range 500 {
		if s := d.story(20); record.Check(s.f) != api.OK {
			t.Fatal(s.f, record.Check(s.f))
		}
	}
}

// TestP10_1Parts has entries whose other parts are wrong: they do not matter.
func TestP10_1Parts(t *testing.T) {
	wrong := api.Entry{Sight: api.Sight{Kind: -7, Tick: -1, Lo: 2}, Drift: api.Drift{Light: of(2, 1), Gas: -5}, Back: -9, Ahead: -1, Outcome: outcome(99, -1, 600, -1)}
	f := full()
	for i, x := range f.Entries {
		y := wrong
		y.Kind, y.Known, y.Exercise = x.Kind, x.Known, x.Exercise
		switch x.Kind {
		case api.EntrySight:
			y.Sight = x.Sight
		case api.EntryDrift:
			y.Drift = x.Drift
		case api.EntryBack:
			y.Back = x.Back
		case api.EntryDecide:
			y.Ahead, y.Outcome = x.Ahead, x.Outcome
		}
		f.Entries[i] = y
	}
	if e := record.Check(f); e != api.OK {
		t.Error(e)
	}
	got, e := record.Replay(f)
	if want, _ := record.Replay(full()); got != want || e != api.OK {
		t.Error(got, e)
	}
}

// TestP10_1Errors has files with errors: all functions return Check's error, and no result.
func TestP10_1Errors(t *testing.T) {
	for _, x := range faults() {
		f := spoilt(x)
		facts, e := record.Facts(f, 3)
		o, g := record.Decide(f, 3)
		now, h := record.Now(f, 420, 1, false)
		next, i := record.Enter(f, decide(420, 1, lost()))
		drifted, j := record.Enter(f, drift(420, api.Drift{}))
		n, k := record.Replay(f)
		kept, l := record.Real(f)
		b, m := record.Write(f)
		if errors := []api.Errno{e, g, h, i, j, k, l, m}; slices.ContainsFunc(errors, func(e api.Errno) bool { return e != x.e }) {
			t.Error(x.name, errors)
		}
		if len(facts) > 0 || o != (api.Outcome{}) || now != (api.Outcome{}) || n != 0 || b != "" {
			t.Error(x.name, facts, o, now, n, len(b))
		}
		for _, f := range []api.File{next, drifted, kept} {
			if !reflect.DeepEqual(f, api.File{}) {
				t.Error(x.name, f)
			}
		}
	}
}

// changes are changes of the full file, each in one number, flag or list.
func changes() []func(f *api.File) {
	l := []func(f *api.File){
		func(f *api.File) { f.Sky.World.Bodies = f.Sky.World.Bodies[:1] },
		func(f *api.File) { f.Sky.World.Bodies = append(f.Sky.World.Bodies, api.Body{}) },
		func(f *api.File) { f.Sky.World.Bodies[0].Mu++ },
		func(f *api.File) { f.Sky.World.Bodies[1].Radius++ },
		func(f *api.File) { f.Sky.World.Bodies[1].Track = f.Sky.World.Bodies[1].Track[:2] },
		func(f *api.File) { f.Sky.World.Bodies[1].Track[2].X++ },
		func(f *api.File) { f.Sky.World.Bodies[0].Track[0].Y++ },
		func(f *api.File) { f.Sky.World.Home = 0 },
		func(f *api.File) { f.Sky.Stations = f.Sky.Stations[:1] },
		func(f *api.File) { f.Sky.Stations[1].ID++ },
		func(f *api.File) { f.Sky.Stations[0].Off.X++ },
		func(f *api.File) { f.Sky.Stations[1].Off.Y++ },
		func(f *api.File) { f.Sky.Catalogs = nil },
		func(f *api.File) { f.Sky.Catalogs[1].Version++ },
		func(f *api.File) { f.Sky.Catalogs[1].Bias.Lo++ },
		func(f *api.File) { f.Sky.Catalogs[0].Bias.Hi++ },
		func(f *api.File) { f.Drift.Light.Lo++ },
		func(f *api.File) { f.Drift.Light.Hi++ },
		func(f *api.File) { f.Drift.Heat.Lo++ },
		func(f *api.File) { f.Drift.Heat.Hi++ },
		func(f *api.File) { f.Drift.Gas++ },
		func(f *api.File) { f.Tick++ },
		func(f *api.File) { f.Set = f.Set[:1] },
		func(f *api.File) { f.Set = append(f.Set, api.Box{}) },
		func(f *api.File) { f.Set[0].X.Lo++ },
		func(f *api.File) { f.Set[1].Y.Hi++ },
		func(f *api.File) { f.Set[0].U.Lo++ },
		func(f *api.File) { f.Set[1].V.Hi++ },
		func(f *api.File) { f.Set[0], f.Set[1] = f.Set[1], f.Set[0] },
		func(f *api.File) { f.Entries = f.Entries[:9] },
		func(f *api.File) { f.Entries = append(f.Entries, api.Entry{}) },
	}
	for _, change := range []func(x *api.Entry){
		func(x *api.Entry) { x.Kind++ }, func(x *api.Entry) { x.Known++ }, func(x *api.Entry) { x.Exercise = !x.Exercise },
		func(x *api.Entry) { x.Sight.Kind++ }, func(x *api.Entry) { x.Sight.Station++ }, func(x *api.Entry) { x.Sight.Catalog++ }, func(x *api.Entry) { x.Sight.Tick++ },
		func(x *api.Entry) { x.Sight.Dir.X++ }, func(x *api.Entry) { x.Sight.Dir.Y++ }, func(x *api.Entry) { x.Sight.Err++ }, func(x *api.Entry) { x.Sight.Lo++ }, func(x *api.Entry) { x.Sight.Hi++ },
		func(x *api.Entry) { x.Drift.Light.Hi++ }, func(x *api.Entry) { x.Drift.Heat.Lo++ }, func(x *api.Entry) { x.Drift.Gas++ },
		func(x *api.Entry) { x.Back++ }, func(x *api.Entry) { x.Ahead++ },
		func(x *api.Entry) { x.Outcome.Out++ }, func(x *api.Entry) { x.Outcome.Left++ }, func(x *api.Entry) { x.Outcome.Miss++ }, func(x *api.Entry) { x.Outcome.Hit++ },
	} {
		for _, n := range []int{0, 4, 9} {
			l = append(l, func(f *api.File) { change(&f.Entries[n]) })
		}
	}
	return l
}

// TestP10_4Same compares files that differ in one part.
func TestP10_4Same(t *testing.T) {
	if !record.Same(full(), full()) || record.Same(full(), example()) || !record.Same(api.File{}, api.File{}) {
		t.Error("whole files")
	}
	for i, change := range changes() {
		f, g := full(), full()
		change(&f)
		if record.Same(f, g) || record.Same(g, f) || !record.Same(f, f) {
			t.Error(i)
		}
		change(&g)
		if !record.Same(f, g) {
			t.Error("both changed", i)
		}
	}
}

// emptied is a file whose nil lists are empty ones.
func emptied(f api.File) api.File {
	fill := func(f *api.File) {
		for i, b := range f.Sky.World.Bodies {
			if b.Track == nil {
				f.Sky.World.Bodies[i].Track = []api.Vec{}
			}
		}
		if f.Sky.World.Bodies == nil {
			f.Sky.World.Bodies = []api.Body{}
		}
		if f.Sky.Stations == nil {
			f.Sky.Stations = []api.Station{}
		}
		if f.Sky.Catalogs == nil {
			f.Sky.Catalogs = []api.Catalog{}
		}
		if f.Set == nil {
			f.Set = boxes()
		}
		if f.Entries == nil {
			f.Entries = []api.Entry{}
		}
	}
	f.Sky.World.Bodies = slices.Clone(f.Sky.World.Bodies)
	fill(&f)
	return f
}

// TestP10_4Empty compares nil lists to empty ones.
func TestP10_4Empty(t *testing.T) {
	for i, f := range []api.File{{}, example(), {Sky: api.Sky{World: api.World{Bodies: []api.Body{{}}}}}} {
		g := emptied(f)
		if !record.Same(f, g) || !record.Same(g, f) || !record.Same(record.Copy(f), g) || !record.Same(f, record.Copy(g)) {
			t.Error(i, f, g)
		}
	}
}

// spoilers overwrite one list of the full file each, up to its capacity.
func spoilers() []func(f *api.File) {
	return []func(f *api.File){
		func(f *api.File) { spoil(f.Sky.World.Bodies, api.Body{Mu: 99}) },
		func(f *api.File) { spoil(f.Sky.World.Bodies[0].Track, at(99, 99)) },
		func(f *api.File) { spoil(f.Sky.World.Bodies[1].Track, at(99, 99)) },
		func(f *api.File) { spoil(f.Sky.Stations, api.Station{ID: 99}) },
		func(f *api.File) { spoil(f.Sky.Catalogs, api.Catalog{Version: 99}) },
		func(f *api.File) { spoil(f.Set, api.Box{X: of(99, 99)}) },
		func(f *api.File) { spoil(f.Entries, api.Entry{Kind: 99}) },
	}
}

// spoil overwrites a list, up to its capacity.
func spoil[T any](l []T, with T) {
	for i := range l[:cap(l)] {
		l[:cap(l)][i] = with
	}
}

// TestP10_4Copy copies files of any kind, and changes the copies.
func TestP10_4Copy(t *testing.T) {
	for i, change := range changes() {
		f := full()
		change(&f)
		if g := record.Copy(f); !record.Same(f, g) || !reflect.DeepEqual(f, g) {
			t.Error(i, f, g)
		}
	}
	for i, spoil := range spoilers() {
		f := full()
		g := record.Copy(f)
		spoil(&g)
		if !record.Same(f, full()) || record.Same(f, g) {
			t.Error("the copy changed", i)
		}
		g = record.Copy(f)
		spoil(&f)
		if !record.Same(g, full()) || record.Same(f, g) {
			t.Error("the file changed", i)
		}
	}
	track := []api.Vec{at(1, 2)}
	shared := api.File{Sky: api.Sky{World: api.World{Bodies: []api.Body{{Track: track}, {Track: track}}}}}
	g := record.Copy(shared)
	g.Sky.World.Bodies[0].Track[0].X = 9
	if track[0].X != 1 || g.Sky.World.Bodies[1].Track[0].X != 1 {
		t.Error("tracks share memory", g)
	}
	if g := record.Copy(api.File{}); !reflect.DeepEqual(g, api.File{}) {
		t.Error(g)
	}
}
