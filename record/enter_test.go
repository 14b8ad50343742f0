package record_test

import (
	"reflect"
	"slices"
	"testing"

	"bolide/api"
	"bolide/record"
)

func TestP10_2Enter(t *testing.T) {
	f, e := record.Enter(example(), exampleA())
	if !record.Same(f, with(example(), exampleA())) || e != api.OK {
		t.Error(f, e)
	}
	for _, says := range []api.Outcome{{}, lost(), outcome(99, -1, 513, 7), outcome(api.OutSure, 1, 0, 1)} {
		if g, e := record.Enter(f, decide(5, 10, says)); !record.Same(g, with(f, exampleD())) || e != api.OK {
			t.Error(says, g, e)
		}
	}
	if g, e := record.Enter(f, drill(decide(5, 10, api.Outcome{}))); !record.Same(g, with(f, drill(exampleD()))) || e != api.OK {
		t.Error(g, e)
	}
	if g, e := record.Enter(f, exampleB()); !record.Same(g, with(f, exampleB())) || e != api.OK {
		t.Error(g, e)
	}
	if g, e := record.Enter(f, drift(5, windy())); !record.Same(g, with(f, drift(5, windy()))) || e != api.OK {
		t.Error(g, e)
	}
	// Parts that do not matter stay as they are, but for the outcome of a decision.
	x := exampleA()
	x.Drift, x.Back, x.Ahead, x.Outcome = api.Drift{Gas: -1}, 7, 8, outcome(9, 9, 9, 9)
	if g, e := record.Enter(example(), x); !record.Same(g, with(example(), x)) || e != api.OK {
		t.Error(g, e)
	}
	x = decide(5, 10, api.Outcome{})
	x.Sight, x.Drift, x.Back = api.Sight{Kind: 9}, api.Drift{Gas: -1}, -5
	want := x
	want.Outcome = outcome(api.OutOpen, 2, 1, 1)
	if g, e := record.Enter(example(), x); !record.Same(g, with(example(), want)) || e != api.OK {
		t.Error(g, e)
	}
}

func TestP10_2EnterErrors(t *testing.T) {
	full := full()
	for i, c := range []struct {
		x api.Entry
		e api.Errno
	}{
		{api.Entry{Known: 420}, api.ErrKind}, {api.Entry{Kind: 5, Known: 420}, api.ErrKind}, {api.Entry{Kind: -1}, api.ErrKind},
		{sight(421, distance(20, 0, 1)), api.ErrRange}, {sight(419, distance(20, 0, 1)), api.ErrOrder}, {sight(420, distance(421, 0, 1)), api.ErrRange},
		{sight(420, distance(19, 0, 1)), api.ErrRange}, {sight(420, api.Sight{Tick: 20}), api.ErrKind}, {sight(420, api.Sight{Kind: 2, Tick: 20, Station: 9}), api.ErrMissing},
		{drift(420, api.Drift{Light: of(2, 1)}), api.ErrOrder}, {drift(420, api.Drift{Gas: 1001}), api.ErrRange}, {drift(19, api.Drift{}), api.ErrRange},
		{back(420, 10), api.ErrMissing}, {back(420, 3), api.ErrMissing}, {back(420, -1), api.ErrMissing}, {back(420, 7), api.ErrExercise}, {drill(back(420, 1)), api.ErrExercise}, {back(420, 0), api.ErrExists}, {drill(back(420, 2)), api.ErrExists},
		{decide(421, 1, lost()), api.ErrRange}, {decide(19, 1, lost()), api.ErrRange}, {decide(420, 0, lost()), api.ErrRange}, {decide(420, 401, lost()), api.ErrRange}, {decide(419, 1, lost()), api.ErrOrder},
		{decide(419, 0, lost()), api.ErrRange}, // as Now has it
		{back(420, 1), api.OK}, {drill(back(420, 8)), api.OK}, {decide(420, 400, api.Outcome{}), api.OK}, {drift(420, api.Drift{}), api.OK}, {sight(420, distance(420, 0, 1)), api.OK},
	} {
		g, e := record.Enter(full, c.x)
		if e != c.e || e != api.OK && !reflect.DeepEqual(g, api.File{}) || e == api.OK && len(g.Entries) != 11 {
			t.Error(i, g, e)
		}
	}
	for _, x := range faults() {
		bad := spoilt(x)
		for _, y := range []api.Entry{{}, decide(0, 0, lost()), drift(420, api.Drift{})} {
			if g, e := record.Enter(bad, y); e != x.e || !reflect.DeepEqual(g, api.File{}) {
				t.Error(x.name, g, e)
			}
		}
	}
}

// TestP10_2EnterFull enters one more than there can be.
func TestP10_2EnterFull(t *testing.T) {
	f := with(example(), slices.Repeat([]api.Entry{drift(2, api.Drift{})}, 59)...)
	for _, x := range []api.Entry{drift(2, api.Drift{}), exampleA(), back(2, 3), decide(2, 5, lost())} {
		g, e := record.Enter(f, x)
		if e != api.OK || len(g.Entries) != 60 {
			t.Error(x, e)
		}
		for i, c := range []struct {
			x api.Entry
			e api.Errno
		}{
			{drift(6, api.Drift{}), api.ErrFull}, {decide(6, 5, lost()), api.ErrFull}, {api.Entry{}, api.ErrFull}, {drift(1, api.Drift{}), api.ErrFull}, {back(6, 99), api.ErrFull},
			{decide(1, 5, lost()), api.ErrOrder}, {decide(401, 5, lost()), api.ErrRange}, {decide(6, 0, lost()), api.ErrRange},
		} {
			if h, e := record.Enter(g, c.x); e != c.e || !reflect.DeepEqual(h, api.File{}) {
				t.Error(i, e)
			}
		}
	}
	bad := f
	bad.Entries = with(f, api.Entry{Kind: 9}).Entries
	if _, e := record.Enter(bad, drift(2, api.Drift{})); e != api.ErrKind {
		t.Error("the error of the file comes first", e)
	}
}

func TestP10_3Real(t *testing.T) {
	want := full()
	want.Entries = []api.Entry{want.Entries[0], want.Entries[1], want.Entries[3], back(23, 0), want.Entries[9]}
	if f, e := record.Real(full()); !record.Same(f, want) || e != api.OK {
		t.Error(f, e)
	}
	open := outcome(api.OutOpen, 2, 1, 1)
	for i, c := range []struct{ l, want []api.Entry }{
		{nil, nil},
		{[]api.Entry{drill(exampleA()), drill(exampleB())}, nil},
		{[]api.Entry{drill(exampleA()), exampleA(), back(6, 1)}, []api.Entry{exampleA(), back(6, 0)}},
		{
			[]api.Entry{exampleA(), drill(exampleA()), drift(5, windy()), drill(back(5, 1)), back(5, 2), exampleA(), drill(decide(5, 1, open)), back(7, 5), back(7, 0)},
			[]api.Entry{exampleA(), drift(5, windy()), back(5, 1), exampleA(), back(7, 3), back(7, 0)},
		},
		// Outcomes stay as they are.
		{[]api.Entry{drill(exampleA()), decide(5, 10, lost()), drill(decide(5, 10, open)), decide(5, 10, open)}, []api.Entry{decide(5, 10, lost()), decide(5, 10, open)}},
	} {
		if f, e := record.Real(with(example(), c.l...)); !record.Same(f, with(example(), c.want...)) || e != api.OK {
			t.Error(i, f, e)
		}
	}
	// The Back of what is no withdrawal does not matter, and stays.
	x := exampleA()
	x.Back = 5
	if f, e := record.Real(with(example(), drill(exampleA()), x)); !record.Same(f, with(example(), x)) || e != api.OK {
		t.Error(f, e)
	}
}
