package record_test

import (
	"reflect"
	"slices"
	"testing"

	"bolide/api"
	"bolide/record"
)

// TestExamples are the rows of the chapter's examples.
func TestExamples(t *testing.T) {
	f, open, sure := example(), outcome(api.OutOpen, 2, 1, 1), outcome(api.OutSure, 1, 0, 1)
	if o, e := record.Now(f, 5, 10, false); o != open || e != api.OK {
		t.Error("Now", o, e)
	}
	if o, e := record.Now(with(f, exampleA()), 5, 10, false); o != sure || e != api.OK {
		t.Error("Now with A", o, e)
	}
	l := with(f, exampleA(), exampleD(), exampleB(), later(exampleD(), 6))
	if l, e := record.Facts(l, 1); !slices.Equal(l, []int{0}) || e != api.OK {
		t.Error("Facts", l, e)
	}
	if l, e := record.Facts(l, 3); len(l) != 0 || e != api.OK {
		t.Error("Facts", l, e)
	}
	if n, e := record.Replay(with(f, exampleA(), decide(5, 10, open))); n != 1 || e != api.OK {
		t.Error("Replay", n, e)
	}
	if e := record.Check(with(f, exampleB())); e != api.ErrMissing {
		t.Error("B alone", e)
	}
	if e := record.Check(with(f, exampleA(), drill(exampleB()))); e != api.ErrExercise {
		t.Error("B as an exercise", e)
	}
	if o, e := record.Now(with(f, drill(exampleA())), 5, 10, false); o != open || e != api.OK {
		t.Error("A as an exercise", o, e)
	}
	if o, e := record.Now(with(f, drill(exampleA())), 5, 10, true); o != sure || e != api.OK {
		t.Error("A as an exercise, in an exercise", o, e)
	}
	if b, e := record.Write(f); len(b) != 292 || e != api.OK {
		t.Error("Write", len(b), e)
	}
}

// wildOf returns a file of which each number may be any one, and one more entry.
func wildOf(pick func() int64) (api.File, api.Entry) {
	number := func() int { return int(pick()) }
	span := func() api.Span { n := pick(); return of(n, n+pick()) }
	drifts := func() api.Drift { return api.Drift{Light: of(0, pick()), Heat: of(-pick(), pick()), Gas: pick()} }
	look := func() api.Sight {
		return api.Sight{Kind: number(), Station: 1, Catalog: 1, Tick: pick(), Dir: at(pick(), 1), Err: pick(), Lo: pick(), Hi: pick()}
	}
	entry := func() api.Entry {
		return api.Entry{Kind: number(), Known: pick(), Exercise: pick() == 2, Sight: look(), Drift: drifts(), Back: number() - 1, Ahead: number(), Outcome: outcome(number(), number(), number(), number())}
	}
	s := sunny()
	s.World.Bodies[0].Mu, s.World.Bodies[1].Track[1] = pick(), at(pick(), pick())
	s.Stations[1].Off = at(pick(), pick())
	f := api.File{Sky: s, Drift: drifts(), Tick: pick() - 1, Set: boxes(api.Box{X: span(), Y: span(), U: span(), V: span()})}
	f.Entries = []api.Entry{entry(), entry(), entry(), entry()}[:pick()&3]
	return f, entry()
}

// extremes are ordinary numbers, and those at and beyond each limit.
func extremes() []int64 {
	return []int64{
		1, 2, 3, 4, 1, 2, 0, 5, -1, 60, 61, 400, 401, 512, 513, 1000, 1001, speed, speed + 1, place, place + 1, -place, -place - 1,
		end, end + 1, end - 800, end - 799, 1 << 60, most, most - 1, least, least + 1,
	}
}

// TestP1AllArguments calls each function with numbers of any size: none panics, and with an error there is no result.
func TestP1AllArguments(t *testing.T) {
	l := extremes()
	d := draw(1)
	right := map[string]int{}
	for i := range 60000 {
		small := int64(len(l))
		if i%8 > 0 {
			small = 6 // mostly valid
		}
		pick := func() int64 { return l[d.below(small)] }
		f, x := wildOf(pick)
		check := func(name string, isZero bool, e api.Errno) {
			if e != api.OK && !isZero {
				t.Fatal(name, f, x, e)
			}
			if e == api.OK {
				right[name]++
			}
		}
		n := int(pick()) - 1
		facts, e := record.Facts(f, n)
		check("Facts", len(facts) == 0, e)
		o, e := record.Decide(f, n)
		check("Decide", o == (api.Outcome{}), e)
		o, e = record.Now(f, pick(), int(pick()), pick() > 2)
		check("Now", o == (api.Outcome{}), e)
		next, e := record.Enter(f, x)
		check("Enter", reflect.DeepEqual(next, api.File{}), e)
		n, e = record.Replay(f)
		check("Replay", n == 0, e)
		kept, e := record.Real(f)
		check("Real", reflect.DeepEqual(kept, api.File{}), e)
		b, e := record.Write(f)
		check("Write", b == "", e)
		read, e := record.Read(modelBytes(f))
		check("Read", reflect.DeepEqual(read, api.File{}), e)
		if valid := record.Check(f) == api.OK; valid != (b != "") || valid && !record.Same(read, written(f)) {
			t.Fatal("Check", f, len(b), e)
		}
		if !record.Same(f, record.Copy(f)) || record.Same(f, with(f, x)) {
			t.Fatal("Same", f)
		}
	}
	for name, n := range right {
		if n < 100 {
			t.Error("too few right calls", name, n)
		}
	}
	if len(right) != 8 {
		t.Error(right)
	}
}

// TestR4Arguments finds arguments as they were, and results that share no memory with them, or with each other.
func TestR4Arguments(t *testing.T) {
	for name, call := range map[string]func(f api.File) api.File{
		"Copy":  record.Copy,
		"Real":  func(f api.File) api.File { g, _ := record.Real(f); return g },
		"Enter": func(f api.File) api.File { g, _ := record.Enter(f, drift(420, windy())); return g },
		"enter a decision": func(f api.File) api.File {
			g, _ := record.Enter(f, decide(420, 1, lost()))
			return g
		},
		"Read": func(f api.File) api.File { b, _ := record.Write(f); g, _ := record.Read(b); return g },
	} {
		roomy := full()
		roomy.Entries = append(make([]api.Entry, 0, 40), roomy.Entries...)
		want := call(full())
		if record.Check(want) != api.OK {
			t.Fatal(name, want)
		}
		for i, spoil := range spoilers() {
			f := roomy
			got := call(f)
			if !record.Same(got, want) || !record.Same(f, full()) {
				t.Fatal(name, "another result", i)
			}
			apart := record.Copy(got)
			spoil(&got)
			spoil(&apart) // here no list shares memory with another one
			if !record.Same(got, apart) || !record.Same(f, full()) || !record.Same(call(f), want) {
				t.Error(name, "shared", i)
			}
			f = full()
			got = call(f)
			spoil(&f)
			if !record.Same(got, want) {
				t.Error(name, "kept", i)
			}
		}
		if rest := roomy.Entries[len(roomy.Entries):cap(roomy.Entries)]; slices.ContainsFunc(rest, func(x api.Entry) bool { return x != api.Entry{} }) {
			t.Error(name, "written behind the entries", rest)
		}
	}
	f := full()
	facts, _ := record.Facts(f, 9)
	spoil(facts, 99)
	if again, _ := record.Facts(f, 9); slices.Contains(again, 99) || len(again) == 0 {
		t.Error("Facts", again)
	}
	record.Check(f)
	record.Decide(f, 9)
	record.Now(f, 420, 1, true)
	record.Replay(f)
	record.Write(f)
	record.Same(f, f)
	if !record.Same(f, full()) {
		t.Error("changed", f)
	}
}

// TestP1Greatest replays the greatest file in the greatest sky.
func TestP1Greatest(t *testing.T) {
	f := api.File{Sky: api.Sky{Stations: []api.Station{{ID: 1}}}}
	for range 8 {
		f.Sky.World.Bodies = append(f.Sky.World.Bodies, api.Body{Radius: 10, Track: make([]api.Vec, 4096)})
	}
	for i := range int64(20) {
		f.Set = append(f.Set, alone(100000+i, i, 0, 0))
	}
	safe := outcome(api.OutSafe, 20, 20, 0)
	f.Entries = slices.Repeat([]api.Entry{sight(400, distance(390, 0, 1<<27))}, 40)
	f.Entries = append(f.Entries, slices.Repeat([]api.Entry{decide(400, 400, safe)}, 20)...)
	if n, e := record.Replay(f); n != -1 || e != api.OK {
		t.Error(n, e)
	}
	b, e := record.Write(f)
	if g, h := record.Read(b); !record.Same(f, g) || e != api.OK || h != api.OK {
		t.Error(len(b), e, h)
	}
}
