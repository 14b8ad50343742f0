package orbit_test

import (
	"slices"
	"testing"

	"bolide/api"
	"bolide/orbit"
)

func TestP4_1CheckState(t *testing.T) {
	for _, c := range []struct {
		s api.State
		e api.Errno
	}{
		{api.State{}, api.OK}, {state(1, -2, 3, -4), api.OK},
		{state(place, place, speed, speed), api.OK}, {state(-place, -place, -speed, -speed), api.OK},
		{state(place+1, 0, 0, 0), api.ErrRange}, {state(-place-1, 0, 0, 0), api.ErrRange},
		{state(0, place+1, 0, 0), api.ErrRange}, {state(0, -place-1, 0, 0), api.ErrRange},
		{state(0, 0, speed+1, 0), api.ErrRange}, {state(0, 0, -speed-1, 0), api.ErrRange},
		{state(0, 0, 0, speed+1), api.ErrRange}, {state(0, 0, 0, -speed-1), api.ErrRange},
		{state(least, 0, 0, 0), api.ErrRange}, {state(0, most, 0, 0), api.ErrRange}, {state(0, 0, least, 0), api.ErrRange}, {state(0, 0, 0, least), api.ErrRange},
		{state(0, 0, place, 0), api.ErrRange}, {state(0, 0, 0, place), api.ErrRange},
	} {
		if e := orbit.CheckState(c.s); e != c.e {
			t.Error(c.s, e)
		}
	}
}

// badBoxes are boxes that are not valid.
func badBoxes() []api.Box {
	l := boxes(
		box(1, 0, 0, 0, 0, 0, 0, 0), box(0, 0, 0, -1, 0, 0, 0, 0), box(0, 0, 0, 0, 5, 4, 0, 0), box(0, 0, 0, 0, 0, 0, -3, -4),
		box(0, place+1, 0, 0, 0, 0, 0, 0), box(-place-1, 0, 0, 0, 0, 0, 0, 0), box(0, 0, 0, place+1, 0, 0, 0, 0), box(0, 0, -place-1, 0, 0, 0, 0, 0),
		box(0, 0, 0, 0, 0, speed+1, 0, 0), box(0, 0, 0, 0, -speed-1, 0, 0, 0), box(0, 0, 0, 0, 0, 0, 0, speed+1), box(0, 0, 0, 0, 0, 0, -speed-1, 0),
		box(place+1, place+2, 0, 0, 0, 0, 0, 0), box(0, 0, 0, 0, -place, -speed-1, 0, 0),
		box(least, most, 0, 0, 0, 0, 0, 0), box(0, 0, most, least, 0, 0, 0, 0), box(0, 0, 0, 0, least, least, 0, 0), box(0, 0, 0, 0, 0, 0, 0, most),
	)
	for _, b := range l {
		if isBox(b) {
			panic("a valid box")
		}
	}
	return l
}

func TestP4_1Check(t *testing.T) {
	for _, b := range []api.Box{
		{}, example(), alone(state(place, -place, speed, -speed)), box(-place, place, -place, place, -speed, speed, -speed, speed), box(-place, -place, 0, 0, -speed, -speed, speed, speed),
	} {
		if e := orbit.Check(b); e != api.OK {
			t.Error(b, e)
		}
	}
	for _, b := range badBoxes() {
		if e := orbit.Check(b); e != api.ErrRange {
			t.Error(b, e)
		}
	}
}

func TestP4_1CheckSet(t *testing.T) {
	bad := badBoxes()[0]
	for name, c := range map[string]struct {
		l []api.Box
		e api.Errno
	}{
		"nil":         {nil, api.OK},
		"empty":       {boxes(), api.OK},
		"one":         {boxes(example()), api.OK},
		"equal ones":  {boxes(example(), example()), api.OK},
		"512":         {many(512), api.OK},
		"513":         {many(513), api.ErrFull},
		"first bad":   {boxes(bad, example()), api.ErrRange},
		"last bad":    {append(many(511), bad), api.ErrRange},
		"count first": {append(boxes(bad), many(512)...), api.ErrFull},
	} {
		if e := orbit.CheckSet(c.l); e != c.e {
			t.Error(name, e)
		}
	}
	for _, b := range badBoxes() {
		if e := orbit.CheckSet(boxes(example(), b)); e != api.ErrRange {
			t.Error(b, e)
		}
	}
}

func TestP4_1Holds(t *testing.T) {
	b := box(-1, 2, 3, 5, -7, -6, 9, 9)
	for _, c := range []struct {
		b  api.Box
		s  api.State
		ok bool
	}{
		{b, state(-1, 3, -7, 9), true}, {b, state(2, 5, -6, 9), true}, {b, state(0, 4, -6, 9), true},
		{b, state(-2, 3, -7, 9), false}, {b, state(3, 3, -7, 9), false}, {b, state(0, 2, -7, 9), false}, {b, state(0, 6, -7, 9), false},
		{b, state(0, 4, -8, 9), false}, {b, state(0, 4, -5, 9), false}, {b, state(0, 4, -7, 8), false}, {b, state(0, 4, -7, 10), false},
		// Any boxes and states, by their spans alone.
		{box(1, 0, 0, 0, 0, 0, 0, 0), state(1, 0, 0, 0), false}, {box(1, 0, 0, 0, 0, 0, 0, 0), state(0, 0, 0, 0), false},
		{box(least, most, least, most, least, most, least, most), state(least, most, most, least), true},
		{box(least, most, least, most, least, most, most, most), state(0, 0, 0, most-1), false},
		{alone(state(most, least, place+1, speed+1)), state(most, least, place+1, speed+1), true},
		{box(most, least, 0, 0, 0, 0, 0, 0), state(0, 0, 0, 0), false},
	} {
		if ok := orbit.Holds(c.b, c.s); ok != c.ok {
			t.Error(c.b, c.s, ok)
		}
		if ok := orbit.In(boxes(c.b), c.s); ok != c.ok {
			t.Error("In", c.b, c.s, ok)
		}
	}
	d := draw(41)
	for range 20000 {
		b, s := d.box(4, 3), state(d.upTo(4), d.upTo(4), d.upTo(3), d.upTo(3))
		if d.below(2) == 0 {
			s = d.state(b)
		}
		if orbit.Holds(b, s) != holds(b, s) {
			t.Fatal(b, s)
		}
	}
}

func TestP4_1In(t *testing.T) {
	l := boxes(box(0, 1, 0, 0, 0, 0, 0, 0), box(1, 0, 0, 0, 0, 0, 0, 0), box(5, 6, 0, 0, 0, 0, 0, 0))
	for x, want := range map[int64]bool{0: true, 1: true, 2: false, 4: false, 5: true, 6: true, 7: false} {
		if ok := orbit.In(l, state(x, 0, 0, 0)); ok != want {
			t.Error(x, ok)
		}
	}
	if orbit.In(nil, api.State{}) || orbit.In(boxes(), api.State{}) {
		t.Error("in the empty set")
	}
	if !orbit.In(many(600), state(599, 0, 0, 0)) || orbit.In(many(600), state(600, 0, 0, 0)) {
		t.Error("more boxes than a set has")
	}
}

func TestP4_1Within(t *testing.T) {
	b, none := example(), box(0, 0, 1, 0, 0, 0, 0, 0)
	all := box(least, most, least, most, least, most, least, most)
	left, right := box(0, 5, 0, 3, 5, 5, -2, 0), box(6, 10, 0, 3, 5, 5, -2, 0)
	for name, c := range map[string]struct {
		a, b []api.Box
		ok   bool
	}{
		"itself":              {boxes(b), boxes(b), true},
		"nothing":             {nil, nil, true},
		"nothing in one":      {boxes(), boxes(b), true},
		"one in nothing":      {boxes(b), nil, false},
		"parts":               {boxes(right, left), boxes(b), true},
		"in two, not in one":  {boxes(b), boxes(left, right), false},
		"the second one":      {boxes(right), boxes(left, right), true},
		"each":                {boxes(right, left), boxes(left, right), true},
		"one is not":          {boxes(left, right), boxes(left), false},
		"the first is not":    {boxes(right, left), boxes(left), false},
		"X below":             {boxes(box(-1, 0, 0, 0, 5, 5, 0, 0)), boxes(b), false},
		"X above":             {boxes(box(0, 11, 0, 0, 5, 5, 0, 0)), boxes(b), false},
		"Y below":             {boxes(box(0, 0, -1, 0, 5, 5, 0, 0)), boxes(b), false},
		"Y above":             {boxes(box(0, 0, 0, 4, 5, 5, 0, 0)), boxes(b), false},
		"U below":             {boxes(box(0, 0, 0, 0, 4, 5, 0, 0)), boxes(b), false},
		"U above":             {boxes(box(0, 0, 0, 0, 5, 6, 0, 0)), boxes(b), false},
		"V below":             {boxes(box(0, 0, 0, 0, 5, 5, -3, 0)), boxes(b), false},
		"V above":             {boxes(box(0, 0, 0, 0, 5, 5, 0, 1)), boxes(b), false},
		"no states":           {boxes(none), boxes(all), false},
		"no states in itself": {boxes(none), boxes(none), false},
		"in no states":        {boxes(alone(state(0, 0, 0, 0))), boxes(none), false},
		"no X":                {boxes(box(3, 2, 0, 0, 5, 5, 0, 0)), boxes(b), false},
		"no U":                {boxes(box(0, 0, 0, 0, 6, 5, 0, 0)), boxes(all), false},
		"no V":                {boxes(box(0, 0, 0, 0, 5, 5, 0, -1)), boxes(b), false},
		"any numbers":         {boxes(all, b), boxes(b, all), true},
		"more than a set has": {many(600), many(600), true},
		"one more":            {many(601), many(600), false},
	} {
		if ok := orbit.Within(c.a, c.b); ok != c.ok {
			t.Error(name, ok)
		}
	}
}

func TestP4_1Hull(t *testing.T) {
	for name, c := range map[string]struct {
		l    []api.Box
		want api.Box
		ok   bool
	}{
		"none":  {nil, api.Box{}, false},
		"one":   {boxes(example()), example(), true},
		"two":   {boxes(box(1, 2, 5, 6, -1, 0, 7, 7), box(-4, 0, 5, 7, 0, 3, 8, 9)), box(-4, 2, 5, 7, -1, 3, 7, 9), true},
		"three": {boxes(alone(state(1, 2, 3, 4)), alone(state(4, 1, 2, 3)), alone(state(3, 4, 1, 2))), box(1, 4, 1, 4, 1, 3, 2, 4), true},
		"all":   {boxes(alone(state(place, -place, speed, -speed)), alone(state(-place, place, -speed, speed))), box(-place, place, -place, place, -speed, speed, -speed, speed), true},
		"512":   {many(512), box(0, 511, 0, 0, 0, 0, 0, 0), true},
		"513":   {many(513), api.Box{}, false},
		"bad":   {append(many(3), box(1, 0, 0, 0, 0, 0, 0, 0)), api.Box{}, false},
		"far":   {boxes(alone(state(place+1, 0, 0, 0))), api.Box{}, false},
	} {
		if b, ok := orbit.Hull(c.l); b != c.want || ok != c.ok {
			t.Error(name, b, ok)
		}
	}
	d := draw(42)
	for range 5000 {
		l := d.boxes(6, place, speed)
		if b, ok := orbit.Hull(l); b != hullOf(l...) || !ok {
			t.Fatal(l, b, ok)
		}
	}
}

func TestP4_6PackErrors(t *testing.T) {
	for name, c := range map[string]struct {
		l []api.Box
		n int
		e api.Errno
	}{
		"none":      {nil, 1, api.OK},
		"none of 0": {nil, 0, api.ErrRange},
		"0":         {many(2), 0, api.ErrRange},
		"-1":        {many(2), -1, api.ErrRange},
		"least":     {many(2), int(least), api.ErrRange},
		"512":       {many(2), 512, api.OK},
		"513":       {many(2), 513, api.ErrRange},
		"most":      {many(2), int(most), api.ErrRange},
		"full":      {many(513), 0, api.ErrFull},
		"bad":       {boxes(box(1, 0, 0, 0, 0, 0, 0, 0)), 0, api.ErrRange},
		"bad of 1":  {boxes(box(0, 0, 0, 0, 0, speed+1, 0, 0)), 1, api.ErrRange},
	} {
		if l, e := orbit.Pack(c.l, c.n); e != c.e || len(l) > 0 && e != api.OK {
			t.Error(name, l, e)
		}
	}
}

func TestP4_6Pack(t *testing.T) {
	a, b, c, d, e := alone(state(0, 1, 2, 3)), alone(state(5, 0, 7, 0)), alone(state(-3, 2, 2, 2)), alone(state(9, 9, 9, 9)), alone(state(4, -4, 4, -4))
	for name, p := range map[string]struct {
		l    []api.Box
		n    int
		want []api.Box
	}{
		"three into one":   {boxes(a, b, c), 1, boxes(hullOf(a, b, c))},
		"three into two":   {boxes(a, b, c), 2, boxes(hullOf(a, b), c)},
		"three into three": {boxes(a, b, c), 3, boxes(a, b, c)},
		"three into four":  {boxes(a, b, c), 4, boxes(a, b, c)},
		"four into three":  {boxes(a, b, c, d), 3, boxes(hullOf(a, b), hullOf(c, d))},
		"five into four":   {boxes(a, b, c, d, e), 4, boxes(hullOf(a, b), hullOf(c, d), e)},
		"five into two":    {boxes(a, b, c, d, e), 2, boxes(hullOf(a, b, c, d), e)},
		"five into one":    {boxes(a, b, c, d, e), 1, boxes(hullOf(a, b, c, d, e))},
		"one":              {boxes(a), 1, boxes(a)},
		"none":             {nil, 5, nil},
		"512 into 511":     {many(512), 511, pairs(512)},
		"512 into 256":     {many(512), 256, pairs(512)},
		"equal ones stay":  {boxes(a, a), 2, boxes(a, a)},
	} {
		if l, e := orbit.Pack(p.l, p.n); !slices.Equal(l, p.want) || e != api.OK {
			t.Error(name, l, e)
		}
	}
}

// pairs is the set many(n), n even, with neighbours put together.
func pairs(n int64) []api.Box {
	var l []api.Box
	for i := int64(0); i < n; i += 2 {
		l = append(l, box(i, i+1, 0, 0, 0, 0, 0, 0))
	}
	return l
}
