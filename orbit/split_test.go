package orbit_test

import (
	"slices"
	"testing"

	"bolide/api"
	"bolide/orbit"
)

func TestP4_4Split(t *testing.T) {
	for name, c := range map[string]struct {
		b, low, high api.Box
	}{
		"the example":       {example(), box(0, 5, 0, 3, 5, 5, -2, 0), box(6, 10, 0, 3, 5, 5, -2, 0)},
		"Y":                 {box(0, 1, 5, 9, 0, 3, 0, 3), box(0, 1, 5, 7, 0, 3, 0, 3), box(0, 1, 8, 9, 0, 3, 0, 3)},
		"U":                 {box(0, 1, 5, 6, -3, 0, 0, 2), box(0, 1, 5, 6, -3, -2, 0, 2), box(0, 1, 5, 6, -1, 0, 0, 2)},
		"V":                 {box(0, 1, 5, 6, 0, 0, 7, 9), box(0, 1, 5, 6, 0, 0, 7, 8), box(0, 1, 5, 6, 0, 0, 9, 9)},
		"X of equal ones":   {box(0, 1, 0, 1, 0, 1, 0, 1), box(0, 0, 0, 1, 0, 1, 0, 1), box(1, 1, 0, 1, 0, 1, 0, 1)},
		"Y of equal ones":   {box(0, 0, 0, 1, 0, 1, 0, 1), box(0, 0, 0, 0, 0, 1, 0, 1), box(0, 0, 1, 1, 0, 1, 0, 1)},
		"U of equal ones":   {box(0, 0, 0, 0, 0, 1, 0, 1), box(0, 0, 0, 0, 0, 0, 0, 1), box(0, 0, 0, 0, 1, 1, 0, 1)},
		"V alone":           {box(0, 0, 0, 0, 0, 0, 0, 1), box(0, 0, 0, 0, 0, 0, 0, 0), box(0, 0, 0, 0, 0, 0, 1, 1)},
		"rounded down":      {box(-4, -1, 0, 0, 0, 0, 0, 0), box(-4, -3, 0, 0, 0, 0, 0, 0), box(-2, -1, 0, 0, 0, 0, 0, 0)},
		"around 0":          {box(-2, 1, 0, 0, 0, 0, 0, 0), box(-2, -1, 0, 0, 0, 0, 0, 0), box(0, 1, 0, 0, 0, 0, 0, 0)},
		"just below 0":      {box(-1, 0, 0, 0, 0, 0, 0, 0), alone(state(-1, 0, 0, 0)), alone(state(0, 0, 0, 0))},
		"the greatest":      {box(-place, place, -place, place, -speed, speed, -speed, speed), box(-place, 0, -place, place, -speed, speed, -speed, speed), box(1, place, -place, place, -speed, speed, -speed, speed)},
		"U is wider than X": {box(0, 3, 0, 3, 0, 4, 0, 4), box(0, 3, 0, 3, 0, 2, 0, 4), box(0, 3, 0, 3, 3, 4, 0, 4)},
	} {
		if low, high, ok := orbit.Split(c.b); low != c.low || high != c.high || !ok {
			t.Error(name, low, high, ok)
		}
	}
	for _, b := range append(badBoxes(), api.Box{}, alone(state(1, 2, 3, 4)), alone(state(-place, place, speed, -speed))) {
		if low, high, ok := orbit.Split(b); low != (api.Box{}) || high != (api.Box{}) || ok {
			t.Error(b, low, high, ok)
		}
	}
}

// TestP4_4SplitFormula holds Split against the chapter's words, written anew.
func TestP4_4SplitFormula(t *testing.T) {
	d := draw(44)
	for range 30000 {
		far := []int64{1, 3, 20, place}[d.below(4)]
		b := d.box(far, min(far, speed))
		low, high, ok := orbit.Split(b)
		if l := partsOf(b); ok != (len(l) == 2) || ok && (low != l[0] || high != l[1]) {
			t.Fatal(b, low, high, ok)
		}
	}
}

func TestP4_4CellsErrors(t *testing.T) {
	for _, n := range []int{0, -1, 513, int(most), int(least)} {
		if l, e := orbit.Cells(example(), n); len(l) > 0 || e != api.ErrRange {
			t.Error(n, l, e)
		}
	}
	for _, b := range badBoxes() {
		for _, n := range []int{0, 1, 2} {
			if l, e := orbit.Cells(b, n); len(l) > 0 || e != api.ErrRange {
				t.Error(b, n, l, e)
			}
		}
	}
}

func TestP4_4Cells(t *testing.T) {
	part := func(lo, hi int64) api.Box { return box(lo, hi, 0, 3, 5, 5, -2, 0) }
	one := alone(state(1, 2, 3, 4))
	for name, c := range map[string]struct {
		b    api.Box
		n    int
		want []api.Box
	}{
		"1":            {example(), 1, boxes(example())},
		"2":            {example(), 2, boxes(part(0, 5), part(6, 10))},
		"3":            {example(), 3, boxes(part(0, 2), part(3, 5), part(6, 10))},
		"4":            {example(), 4, boxes(part(0, 2), part(3, 5), part(6, 8), part(9, 10))},
		"5, through Y": {example(), 5, boxes(box(0, 2, 0, 1, 5, 5, -2, 0), box(0, 2, 2, 3, 5, 5, -2, 0), part(3, 5), part(6, 8), part(9, 10))},
		"one state":    {one, 512, boxes(one)},
		"one state, 1": {one, 1, boxes(one)},
		"two states":   {box(0, 0, 0, 0, 0, 0, 4, 5), 3, boxes(alone(state(0, 0, 0, 4)), alone(state(0, 0, 0, 5)))},
		"six states":   {box(0, 2, 0, 0, 0, 1, 0, 0), 6, boxes(alone(state(0, 0, 0, 0)), alone(state(0, 0, 1, 0)), alone(state(1, 0, 0, 0)), alone(state(1, 0, 1, 0)), alone(state(2, 0, 0, 0)), alone(state(2, 0, 1, 0)))},
	} {
		if l, e := orbit.Cells(c.b, c.n); !slices.Equal(l, c.want) || e != api.OK {
			t.Error(name, l, e)
		}
	}
	row := box(0, 511, 0, 0, 0, 0, 0, 0)
	if l, e := orbit.Cells(row, 512); !slices.Equal(l, many(512)) || e != api.OK {
		t.Error("512 states", l, e)
	}
	row.X.Hi = 600
	if l, e := orbit.Cells(row, 512); len(l) != 512 || e != api.OK {
		t.Error("601 states", l, e)
	}
}

// TestP4_4CellsFormula holds Cells against the chapter's words, written anew.
func TestP4_4CellsFormula(t *testing.T) {
	d := draw(45)
	few := 0
	for range 2000 {
		far := []int64{1, 3, 20, place}[d.below(4)]
		b, n := d.box(far, min(far, speed)), 1+int(d.below(60))
		l, e := orbit.Cells(b, n)
		if !slices.Equal(l, cellsOf(b, n)) || e != api.OK {
			t.Fatal(b, n, l, e)
		}
		if len(l) < n {
			few++
			if len(l) != len(statesOf(b)) {
				t.Fatal("not all states", b, n, l)
			}
		}
	}
	if few < 50 {
		t.Error("too few small boxes", few)
	}
	all := box(-place, place, -place, place, -speed, speed, -speed, speed)
	if l, e := orbit.Cells(all, 512); !slices.Equal(l, cellsOf(all, 512)) || e != api.OK {
		t.Error("the greatest box", e)
	}
}
