package council_test

import (
	"cmp"
	"math"
	"math/bits"
	"slices"

	"bolide/api"
	"bolide/council"
)

const (
	end   = int64(api.MaxTick)
	heavy = int64(api.MaxWeight)
	whole = int64(api.MaxAll)
	least = int64(math.MinInt64)
	most  = int64(math.MaxInt64)
)

// three is the council C of the chapter's examples.
func three() api.Council {
	return api.Council{
		Members: []api.Member{{ID: 1, Weight: 50}, {ID: 2, Weight: 30}, {ID: 3, Weight: 20}},
		Laws:    []api.Law{{Act: 7, Level: 1, Window: 10, Quorum: 600, Share: 500}},
		Levels:  []int64{1000000, 100000000},
	}
}

// lawful is C with a law for each of the levels 0, 1 and 2: the acts 5, 7 and 8.
func lawful() api.Council {
	c := three()
	c.Laws = []api.Law{{Act: 5, Level: 0, Window: 5}, c.Laws[0], {Act: 8, Level: 2, Window: 0, Quorum: 1000, Share: 667}}
	return c
}

// with returns something that was changed.
func with[T any](a T, change func(*T)) T {
	change(&a)
	return a
}

func chance(least, most, all int64) api.Chance {
	return api.Chance{Least: least, Most: most, All: all}
}

// at is a chance that has this level in C.
func at(level int) api.Chance {
	return chance(0, []int64{0, 1, 100}[level], 1000)
}

func fact(tick int64, target int, x api.Chance) api.Item {
	return api.Item{Kind: api.ItemFact, Tick: tick, A: target, Chance: x}
}

func move(tick int64, target, act int) api.Item {
	return api.Item{Kind: api.ItemMotion, Tick: tick, A: target, B: act}
}

func vote(tick int64, motion, member int, yes bool) api.Item {
	return api.Item{Kind: api.ItemVote, Tick: tick, A: motion, B: member, Yes: yes}
}

func closed(tick int64, motion int) api.Item {
	return api.Item{Kind: api.ItemClose, Tick: tick, A: motion}
}

// drill makes an exercise of an item.
func drill(x api.Item) api.Item {
	x.Drill = true
	return x
}

func items(l ...api.Item) []api.Item { return l }

// drills makes exercises of items.
func drills(l ...api.Item) []api.Item {
	l = slices.Clone(l)
	for i := range l {
		l[i].Drill = true
	}
	return l
}

func alarm(tick int64, target, level int, back bool) api.Alarm {
	return api.Alarm{Tick: tick, Target: target, Level: level, Back: back}
}

// clone copies a house.
func clone(h api.House) api.House {
	h.Real, h.Drill = cloneLedger(h.Real), cloneLedger(h.Drill)
	return h
}

func cloneLedger(x api.Ledger) api.Ledger {
	x.Facts, x.Motions, x.Sent = slices.Clone(x.Facts), slices.Clone(x.Motions), slices.Clone(x.Sent)
	for i, m := range x.Motions {
		x.Motions[i].Voted = slices.Clone(m.Voted)
	}
	return x
}

// atLeast reports whether a b >= c d, for numbers that are not below 0.
func atLeast(a, b, c, d int64) bool {
	h, l := bits.Mul64(uint64(a), uint64(b))
	m, n := bits.Mul64(uint64(c), uint64(d))
	return h > m || h == m && l >= n
}

// levelIn is the level of a valid chance, in the chapter's words.
func levelIn(c api.Council, x api.Chance) int {
	n := 0
	for _, level := range c.Levels {
		if atLeast(x.Most, 1000000000, level, x.All) {
			n++
		}
	}
	return n
}

// lawFor is the law for an act, and how many there are.
func lawFor(c api.Council, act int) (law api.Law, n int) {
	for _, x := range c.Laws {
		if x.Act == act {
			law, n = x, n+1
		}
	}
	return law, n
}

// weights are those of the members by their IDs, and of all together.
func weights(c api.Council) (map[int]int64, int64) {
	m, all := map[int]int64{}, int64(0)
	for _, x := range c.Members {
		m[x.ID] = x.Weight
		all += x.Weight
	}
	return m, all
}

// enough are the votes that the chapter asks for.
func enough(c api.Council, law api.Law, yes, no int64) bool {
	_, all := weights(c)
	return atLeast(yes+no, 1000, law.Quorum, all) && atLeast(yes, 1000, law.Share, all)
}

// isValid reports whether a chance is valid, in the chapter's words.
func isValid(x api.Chance) bool {
	return 0 <= x.Least && x.Least <= x.Most && x.Most <= x.All && 1 <= x.All && x.All <= 1<<50
}

// ledgers are where the own ledger of an item is in a house, and the other one.
func ledgers(h *api.House, x api.Item) (own, other *api.Ledger) {
	if x.Drill {
		return &h.Drill, &h.Real
	}
	return &h.Real, &h.Drill
}

// fault is the error of an item in a house of a valid council, in the chapter's words.
func fault(c api.Council, h api.House, x api.Item) api.Errno {
	own, other := ledgers(&h, x)
	isThere := func(l *api.Ledger) bool { return 0 <= x.A && x.A < len(l.Motions) }
	var m api.Motion
	if isThere(own) {
		m = own.Motions[x.A]
	}
	law, laws := lawFor(c, x.B)
	level := -1
	for _, k := range own.Facts {
		if k.Target == x.A {
			level = k.Level
		}
	}
	open := false
	for _, m := range own.Motions {
		open = open || m.State == 1 && m.Target == x.A && m.Act == x.B
	}
	its, _ := lawFor(c, m.Act)
	over := x.Tick > m.Opened+its.Window
	_, isMember := func() (int64, bool) { l, _ := weights(c); n, ok := l[x.B]; return n, ok }()
	type condition struct {
		is bool
		e  api.Errno
	}
	l := []condition{{x.Tick < 0 || x.Tick > 1<<30, 2}, {x.Tick < h.Tick, 11}, {x.Kind < 1 || x.Kind > 4, 4}}
	switch x.Kind {
	case 1:
		l = append(l, condition{x.A < 1 || x.A > 999, 2}, condition{!isValid(x.Chance), 3})
	case 2:
		l = append(l, condition{laws == 0 || level < 0, 7}, condition{level < law.Level, 10}, condition{open, 9}, condition{len(own.Motions) >= 64, 8})
	case 3:
		l = append(l, condition{!isThere(own) && isThere(other), 15}, condition{!isThere(own) || !isMember, 7}, condition{m.State != 1, 10}, condition{slices.Contains(m.Voted, x.B), 9}, condition{over, 13})
	case 4:
		l = append(l, condition{!isThere(own) && isThere(other), 15}, condition{!isThere(own), 7}, condition{m.State != 1, 10}, condition{len(m.Voted) != len(c.Members) && !over, 11})
	}
	for _, x := range l {
		if x.is {
			return x.e
		}
	}
	return 0
}

// step is the house after an item, in the chapter's words; with an error it is the house before.
func step(c api.Council, h api.House, x api.Item) (api.House, api.Errno) {
	if e := fault(c, h, x); e != 0 {
		return h, e
	}
	h = clone(h)
	own, _ := ledgers(&h, x)
	switch x.Kind {
	case 1:
		learn(c, own, x)
	case 2:
		own.Motions = append(own.Motions, api.Motion{Target: x.A, Act: x.B, Opened: x.Tick, State: 1, Fact: -1})
	case 3:
		m := &own.Motions[x.A]
		l, _ := weights(c)
		m.Voted = append(m.Voted, x.B)
		if x.Yes {
			m.Yes += l[x.B]
		} else {
			m.No += l[x.B]
		}
	case 4:
		m := &own.Motions[x.A]
		law, _ := lawFor(c, m.Act)
		m.State = 3
		if enough(c, law, m.Yes, m.No) {
			m.State = 2
		}
		for _, k := range own.Facts {
			if k.Target == m.Target {
				m.Fact = k.Item
			}
		}
	}
	h.Tick, own.Items = x.Tick, own.Items+1
	return h, 0
}

// learn is what a fact does in its ledger, in the chapter's words.
func learn(c api.Council, own *api.Ledger, x api.Item) {
	now := api.Known{Target: x.A, Level: levelIn(c, x.Chance), Item: own.Items, Chance: x.Chance}
	before := 0
	var facts []api.Known
	for _, k := range own.Facts {
		if k.Target == x.A {
			before = k.Level
		} else {
			facts = append(facts, k)
		}
	}
	own.Facts = append(facts, now)
	slices.SortFunc(own.Facts, func(a, b api.Known) int { return cmp.Compare(a.Target, b.Target) })
	if now.Level > before {
		own.Sent = append(own.Sent, alarm(x.Tick, x.A, now.Level, false))
	} else if now.Level < before {
		own.Sent = append(own.Sent, alarm(x.Tick, x.A, now.Level, true))
	}
	for i, m := range own.Motions {
		if law, _ := lawFor(c, m.Act); m.State == 1 && m.Target == x.A && law.Level > now.Level {
			own.Motions[i].State, own.Motions[i].Fact = 4, now.Item
		}
	}
}

// steps does items from a house on: the house, the number of the first item with an error (-1: none), and its error.
func steps(c api.Council, h api.House, l []api.Item) (api.House, int, api.Errno) {
	for i, x := range l {
		next, e := step(c, h, x)
		if e != 0 {
			return h, i, e
		}
		h = next
	}
	return h, -1, 0
}

// equal reports whether two houses are equal, in all fields that they have.
func equal(a, b api.House) bool {
	return a.Tick == b.Tick && equalLedgers(a.Real, b.Real) && equalLedgers(a.Drill, b.Drill)
}

func equalLedgers(a, b api.Ledger) bool {
	return a.Items == b.Items && slices.Equal(a.Facts, b.Facts) && slices.Equal(a.Sent, b.Sent) &&
		slices.EqualFunc(a.Motions, b.Motions, func(a, b api.Motion) bool {
			voted := slices.Equal(a.Voted, b.Voted)
			return voted && slices.Equal(numbers(a), numbers(b))
		})
}

func numbers(m api.Motion) []int64 {
	return []int64{int64(m.Target), int64(m.Act), m.Opened, int64(m.State), m.Yes, m.No, int64(m.Fact)}
}

// built is the house of items that have no error.
func built(c api.Council, l []api.Item) api.House {
	h, n, e := council.Build(c, l)
	if n != -1 || e != api.OK {
		panic(e)
	}
	return h
}

// draw hands out numbers that look arbitrary, the same ones in each run.
type draw uint64

func (d *draw) next() int64 {
	*d = *d*6364136223846793005 + 1442695040888963407
	return int64(*d ^ *d>>29)
}

// below returns a number from 0 to n - 1.
func (d *draw) below(n int64) int64 { return int64(uint64(d.next()) % uint64(n)) }

// upTo returns a number from 1 to n.
func (d *draw) upTo(n int64) int { return int(1 + d.below(n)) }

// oneOf returns one of some numbers.
func (d *draw) oneOf(l ...int64) int64 { return l[d.below(int64(len(l)))] }

// council draws a valid council.
func (d *draw) council() api.Council {
	var c api.Council
	id := 0
	for range d.upTo(5) {
		id += d.upTo(2)
		c.Members = append(c.Members, api.Member{ID: id, Weight: d.oneOf(1, 2, 3, 10, 1+d.below(heavy), heavy)})
	}
	act := 0
	for range d.upTo(4) {
		act += d.upTo(2)
		c.Laws = append(c.Laws, api.Law{Act: act, Level: int(d.below(4)), Window: d.oneOf(0, 2, 5, 10), Quorum: d.oneOf(0, 300, 500, 667, 1000), Share: d.oneOf(0, 1, 400, 500, 667, 1000)})
	}
	level := int64(0)
	for range d.below(4) {
		level += d.oneOf(1, 1000, 1000000, 1+d.below(300000000))
		c.Levels = append(c.Levels, level)
	}
	return c
}

// chance draws a valid chance, often one at the edge of a level of a council.
func (d *draw) chance(c api.Council) api.Chance {
	x := api.Chance{All: d.oneOf(1, 10, 1000, 1000000000, 1+d.below(whole), whole)}
	x.Most = d.below(x.All + 1)
	if len(c.Levels) > 0 && d.below(4) > 0 {
		level := c.Levels[d.below(int64(len(c.Levels)))]
		hi, lo := bits.Mul64(uint64(level), uint64(x.All))
		edge, _ := bits.Div64(hi, lo, 1000000000)
		x.Most = min(max(int64(edge)+d.below(3)-1, 0), x.All)
	}
	x.Least = d.below(x.Most + 1)
	return x
}

// item draws an item that may follow in a house, but need not be free of errors.
func (d *draw) item(c api.Council, h api.House) api.Item {
	x := api.Item{Kind: int(d.oneOf(1, 1, 2, 2, 3, 3, 3, 3, 4, 4)), Tick: h.Tick + d.oneOf(0, 0, 0, 1, 2, 5), Drill: d.below(3) == 0, Yes: d.below(3) > 0}
	own, _ := ledgers(&h, x)
	switch x.Kind {
	case api.ItemFact:
		x.A, x.Chance = d.upTo(4), d.chance(c)
	case api.ItemMotion:
		if x.A, x.B = d.upTo(4), d.upTo(7); d.below(4) > 0 && len(own.Facts) > 0 {
			x.A, x.B = own.Facts[d.below(int64(len(own.Facts)))].Target, c.Laws[d.below(int64(len(c.Laws)))].Act
		}
	case api.ItemVote, api.ItemClose:
		x.A = int(d.below(int64(len(own.Motions)) + 1))
		if x.B = d.upTo(9); d.below(4) > 0 {
			x.A, x.B = max(len(own.Motions)-d.upTo(4), 0), c.Members[d.below(int64(len(c.Members)))].ID
		}
	}
	if d.below(60) == 0 {
		x.Tick += d.oneOf(-1, -x.Tick-1, end)
	}
	if d.below(60) == 0 {
		x.Kind = int(d.oneOf(0, 5, -1))
	}
	return x
}

// right draws items without errors, and says how many faults it found on its way.
func (d *draw) right(c api.Council, n int) (l []api.Item, faults map[api.Errno]int) {
	var h api.House
	faults = map[api.Errno]int{}
	for range n {
		x := d.item(c, h)
		next, e := step(c, h, x)
		if e != api.OK {
			faults[e]++
			continue
		}
		l, h = append(l, x), next
	}
	return l, faults
}
