package force_test

import (
	"reflect"
	"testing"

	"bolide/api"
	"bolide/force"
)

// numbers are ordinary ones, and those at and beyond each limit.
func numbers() []int64 {
	return []int64{
		0, 1, 1, 2, 3, 10, 100, 1000, -1, -7, -1000, 1001, -1001, 1 << 20, 1<<20 + 1, -1 << 20, -1<<20 - 1,
		place, place + 1, -place, -place - 1, 1 << 28, 1<<28 + 1, -1<<28 - 1, 1 << 30, 1<<30 + 1, 1 << 50, 1<<50 + 1, 1 << 60, 1<<60 + 1, most, most - 1, least, least + 1,
	}
}

// isEnclosure reports whether both spans of an area are in order.
func isEnclosure(a api.Area) bool { return a.X.Lo <= a.X.Hi && a.Y.Lo <= a.Y.Hi }

// TestP1AllArguments calls each function with numbers of any size: none panics, and with an error there is no result.
func TestP1AllArguments(t *testing.T) {
	l := numbers()
	d := draw(1)
	right := 0
	for i := range 100000 {
		small := int64(len(l))
		if i%3 > 0 {
			small = 8 // mostly valid
		}
		pick := func() int64 { return l[d.below(small)] }
		w := world()
		w.Bodies[0].Mu, w.Bodies[0].Radius, w.Bodies[1].Mu = pick(), pick(), pick()
		w.Bodies[1].Track[1] = at(pick(), pick())
		drift := api.Drift{Light: of(pick(), pick()), Heat: of(pick(), pick()), Gas: pick()}
		tick, body, a := pick(), int(pick()), area(pick(), pick(), pick(), pick())
		results := map[string]api.Area{}
		errors := map[string]api.Errno{}
		for _, f := range enclosures() {
			results[f.name], errors[f.name] = f.f(w, drift, tick, a)
		}
		results["body"], errors["body"] = force.One(w, body, tick, a)
		results["place"], errors["place"] = force.Pull(w, drift, tick, at(a.X.Lo, a.Y.Lo))
		for name, r := range results {
			if errors[name] != api.OK && r != (api.Area{}) || !isEnclosure(r) {
				t.Fatal(name, w, drift, tick, a, r, errors[name])
			}
			if errors[name] == api.OK {
				right++
			}
		}
		if e := force.CheckDrift(drift); e != api.OK && errors["Over"] == api.OK {
			t.Fatal(drift, e)
		}
		if r, e := force.Energy(w, tick, api.State{X: a.X.Lo, Y: a.Y.Hi, U: pick(), V: pick()}); e != api.OK && r != of(0, 0) || r.Lo > r.Hi {
			t.Fatal(w, tick, r, e)
		}
		if n, ok := force.Ruler(w, tick, at(a.X.Hi, a.Y.Lo)); n < 0 || n > 1 || !ok && n != 0 {
			t.Fatal(w, tick, n, ok)
		}
	}
	if right < 1000 {
		t.Error("too few right questions", right)
	}
}

// TestR4Arguments finds arguments as they were.
func TestR4Arguments(t *testing.T) {
	w, d := world(), drift()
	for _, f := range enclosures() {
		f.f(w, d, 1, area(40, 50, 0, 0))
	}
	force.Pull(w, d, 1, at(50, 0))
	force.Energy(w, 1, api.State{X: 50})
	force.Ruler(w, 1, at(50, 0))
	if !reflect.DeepEqual(w, world()) || d != drift() {
		t.Error("changed", w, d)
	}
}

// TestDocExample is the row of force in the document's own table of examples.
func TestDocExample(t *testing.T) {
	w := single(1000000, 0, 0, 0)
	if r, e := force.One(w, 0, 0, alone(at(50, 0))); r != area(-400, -400, 0, 0) || e != api.OK {
		t.Error(r, e)
	}
	if r, e := force.One(w, 0, 0, area(40, 50, 0, 0)); r != area(-782, -320, 0, 0) || e != api.OK {
		t.Error(r, e)
	}
}
