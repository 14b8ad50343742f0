package council_test

import (
	"slices"
	"testing"

	"bolide/api"
	"bolide/council"
)

// manyMembers are so many members, each of the greatest weight.
func manyMembers(n int) []api.Member {
	var l []api.Member
	for i := range n {
		l = append(l, api.Member{ID: i + 1, Weight: heavy})
	}
	return l
}

func manyLaws(n int) []api.Law {
	var l []api.Law
	for i := range n {
		l = append(l, api.Law{Act: i + 1})
	}
	return l
}

func manyLevels(n int) []int64 {
	var l []int64
	for i := range n {
		l = append(l, int64(i)+1)
	}
	return l
}

// faultyCouncils are councils with the errors that they have; each has all that comes behind its error wrong, too.
func faultyCouncils() map[string]struct {
	c    api.Council
	want api.Errno
} {
	type row = struct {
		c    api.Council
		want api.Errno
	}
	members := func(want api.Errno, l ...api.Member) row { // the laws are wrong, too: too many
		return row{with(three(), func(c *api.Council) { c.Members, c.Laws = l, manyLaws(17) }), want}
	}
	laws := func(want api.Errno, l ...api.Law) row { // the levels are wrong, too: too many
		return row{with(three(), func(c *api.Council) { c.Laws, c.Levels = l, manyLevels(9) }), want}
	}
	law := func(want api.Errno, change func(*api.Law)) row {
		return laws(want, api.Law{Act: 6}, with(three().Laws[0], change), api.Law{Act: 1})
	}
	levels := func(want api.Errno, l ...int64) row {
		return row{with(three(), func(c *api.Council) { c.Levels = l }), want}
	}
	one, two := api.Member{ID: 1, Weight: 1}, api.Member{ID: 2, Weight: 1}
	return map[string]row{
		"zero":              {api.Council{}, api.ErrShort},
		"no members":        members(api.ErrShort),
		"many members":      members(api.ErrFull, make([]api.Member, 65)...),
		"ID 0":              members(api.ErrOrder, api.Member{}),
		"ID below 0":        members(api.ErrOrder, api.Member{ID: -1, Weight: 1}),
		"equal IDs":         members(api.ErrOrder, one, one),
		"falling IDs":       members(api.ErrOrder, two, one),
		"order before":      members(api.ErrOrder, two, api.Member{ID: 2}),
		"weight first":      members(api.ErrRange, api.Member{ID: 2}, one),
		"weight 0":          members(api.ErrRange, one, api.Member{ID: 2}),
		"weight below 0":    members(api.ErrRange, api.Member{ID: 1, Weight: -1}),
		"great weight":      members(api.ErrRange, api.Member{ID: 1, Weight: heavy + 1}),
		"many laws":         laws(api.ErrFull, make([]api.Law, 17)...),
		"act 0":             laws(api.ErrOrder, api.Law{Level: 9}),
		"act below 0":       laws(api.ErrOrder, api.Law{Act: -1}),
		"equal acts":        laws(api.ErrOrder, api.Law{Act: 3}, api.Law{Act: 3, Level: 9}),
		"falling acts":      laws(api.ErrOrder, api.Law{Act: 3}, api.Law{Act: 2}),
		"law level below 0": law(api.ErrRange, func(x *api.Law) { x.Level = -1 }),
		"law level 9":       law(api.ErrRange, func(x *api.Law) { x.Level = 9 }),
		"window below 0":    law(api.ErrRange, func(x *api.Law) { x.Window = -1 }),
		"long window":       law(api.ErrRange, func(x *api.Law) { x.Window = end + 1 }),
		"quorum below 0":    law(api.ErrRange, func(x *api.Law) { x.Quorum = -1 }),
		"great quorum":      law(api.ErrRange, func(x *api.Law) { x.Quorum = 1001 }),
		"share below 0":     law(api.ErrRange, func(x *api.Law) { x.Share = -1 }),
		"great share":       law(api.ErrRange, func(x *api.Law) { x.Share = 1001 }),
		"many levels":       levels(api.ErrFull, make([]int64, 9)...),
		"level 0":           levels(api.ErrOrder, 0),
		"level below 0":     levels(api.ErrOrder, -5),
		"equal levels":      levels(api.ErrOrder, 5, 5),
		"falling levels":    levels(api.ErrOrder, 5, 4),
		"great level":       levels(api.ErrRange, 5, 1000000001),
		"great level first": levels(api.ErrRange, 1000000001, 5),
	}
}

func TestP9_1Check(t *testing.T) {
	for name, x := range faultyCouncils() {
		if e := council.Check(x.c); e != x.want {
			t.Error(name, e)
		}
	}
	for name, c := range map[string]api.Council{
		"three":            three(),
		"lawful":           lawful(),
		"one alone":        {Members: []api.Member{{ID: 1, Weight: 1}}},
		"great ID":         {Members: []api.Member{{ID: int(most), Weight: 1}}},
		"most of all":      {Members: manyMembers(64), Laws: manyLaws(16), Levels: manyLevels(8)},
		"greatest numbers": {Members: []api.Member{{ID: 5, Weight: heavy}}, Laws: []api.Law{{Act: int(most), Level: 8, Window: end, Quorum: 1000, Share: 1000}}, Levels: []int64{1, 1000000000}},
		"law of zeros":     {Members: []api.Member{{ID: 5, Weight: 1}}, Laws: []api.Law{{Act: 1}}},
		"empty lists":      {Members: []api.Member{{ID: 5, Weight: 1}}, Laws: []api.Law{}, Levels: []int64{}},
	} {
		if e := council.Check(c); e != api.OK {
			t.Error(name, e)
		}
	}
}

// faultyChances are chances that are not valid.
func faultyChances() []api.Chance {
	return []api.Chance{
		{}, chance(-1, 0, 1), chance(-2, -1, 1), chance(1, 0, 1), chance(0, 2, 1), chance(2, 2, 1), chance(0, 0, 0), chance(0, 0, -1), chance(0, 0, whole+1),
		chance(least, 0, 1), chance(0, most, most), chance(0, most, 1), chance(most, 0, 1), chance(0, 0, least), chance(0, least, 1),
	}
}

func TestP9_1CheckChance(t *testing.T) {
	for _, x := range faultyChances() {
		if e := council.CheckChance(x); e != api.ErrForm {
			t.Error(x, e)
		}
		if n := council.Level(three(), x); n != -1 {
			t.Error("Level", x, n)
		}
	}
	for _, x := range []api.Chance{chance(0, 0, 1), chance(1, 1, 1), chance(0, 1, 1), chance(0, 0, whole), chance(whole, whole, whole), chance(5, 7, 9)} {
		if e := council.CheckChance(x); e != api.OK {
			t.Error(x, e)
		}
	}
}

func TestP9_1Level(t *testing.T) {
	in := func(l ...int64) api.Council { return with(three(), func(c *api.Council) { c.Levels = l }) }
	for i, x := range []struct {
		c    api.Council
		x    api.Chance
		want int
	}{
		{three(), chance(0, 1, 1000), 1}, {three(), chance(0, 0, 1000), 0}, {three(), chance(5, 100, 1000), 2}, {three(), chance(5, 99, 1000), 1}, {three(), chance(99, 99, 1000), 1}, {three(), chance(1000, 1000, 1000), 2},
		{in(), chance(1, 1, 1), 0}, {in(1), chance(0, 1, 1000000000), 1}, {in(1), chance(0, 1, 1000000001), 0}, {in(2), chance(0, 1, 500000000), 1}, {in(2), chance(0, 1, 500000001), 0},
		{in(333333333), chance(0, 1, 3), 1}, {in(333333333, 333333334), chance(0, 1, 3), 1}, {in(333333334), chance(0, 1, 3), 0}, {in(1000000000), chance(0, 1, 1), 1},
		{in(1000000000), chance(0, whole, whole), 1}, {in(999999999, 1000000000), chance(0, whole-1, whole), 1}, {in(500000000), chance(0, whole/2, whole), 1}, {in(500000000), chance(0, whole/2-1, whole), 0}, {in(manyLevels(8)...), chance(1, 1, 1), 8}, {in(manyLevels(8)...), chance(0, 4, 1000000000), 4},
	} {
		if n := council.Level(x.c, x.x); n != x.want {
			t.Error(i, n)
		}
	}
	for name, x := range faultyCouncils() {
		if n := council.Level(x.c, at(1)); n != -1 {
			t.Error(name, n)
		}
	}
}

// TestP9_1LevelAny compares levels with the chapter's words, at their edges above all.
func TestP9_1LevelAny(t *testing.T) {
	d := draw(1)
	seen := map[int]int{}
	for range 30000 {
		c := d.council()
		x := d.chance(c)
		n := council.Level(c, x)
		if n != levelIn(c, x) {
			t.Fatal(c, x, n)
		}
		seen[n]++
	}
	if seen[0] < 1000 || seen[1] < 1000 || seen[2] < 1000 || seen[3] < 1000 {
		t.Error("too few cases", seen)
	}
}

func TestP9_1Votes(t *testing.T) {
	under := func(quorum, share int64, weights ...int64) api.Council {
		c := api.Council{Laws: []api.Law{{Act: 3, Quorum: 1000, Share: 1000}, {Act: 7, Quorum: quorum, Share: share}}}
		for i, n := range weights {
			c.Members = append(c.Members, api.Member{ID: i + 1, Weight: n})
		}
		return c
	}
	great := with(three(), func(c *api.Council) { c.Members = manyMembers(64) }) // all weight is 2^46
	for i, x := range []struct {
		c       api.Council
		act     int
		yes, no int64
		want    bool
	}{
		{three(), 7, 50, 10, true}, {three(), 7, 50, 9, false}, {three(), 7, 49, 51, false}, {three(), 8, 100, 0, false}, {three(), 7, 60, 0, true}, {three(), 7, 0, 60, false}, {three(), 0, 100, 0, false}, {three(), 7, 0, 0, false},
		{three(), 7, -1, 100, false}, {three(), 7, 100, -1, false}, {three(), 7, whole, whole, true}, {three(), 7, whole + 1, 0, false}, {three(), 7, 100, whole + 1, false}, {three(), 7, most, most, false}, {three(), 7, least, 0, false}, {three(), 7, 100, 10, true},
		{under(0, 0, 5), 7, 0, 0, true}, {under(0, 0, 5), 3, 4, 0, false}, {under(0, 0, 5), 3, 5, 0, true}, {under(1000, 0, 5, 6), 7, 0, 10, false}, {under(1000, 0, 5, 6), 7, 0, 11, true}, {under(0, 1000, 5, 6), 7, 10, 1, false}, {under(0, 1000, 5, 6), 7, 11, 0, true},
		{under(500, 0, 3), 7, 0, 1, false}, {under(500, 0, 3), 7, 0, 2, true}, {under(500, 0, 3), 7, 1, 1, true}, {under(0, 500, 3), 7, 1, 1, false}, {under(0, 500, 3), 7, 2, 0, true}, {under(0, 1, 999), 7, 0, 0, false}, {under(0, 1, 999), 7, 1, 0, true}, {under(1, 0, 999), 7, 0, 0, false},
		{great, 7, 1 << 45, 1 << 44, true}, {great, 7, 1<<45 - 1, 1 << 44, false}, {great, 7, 1 << 45, 7036874417766, false}, {great, 7, 1 << 45, 7036874417767, true},
	} {
		if ok := council.Votes(x.c, x.act, x.yes, x.no); ok != x.want {
			t.Error(i, ok)
		}
	}
	for name, x := range faultyCouncils() {
		if council.Votes(x.c, 7, 50, 50) {
			t.Error(name)
		}
	}
}

// TestP9_1VotesAny compares votes with the chapter's words, at their edges above all.
func TestP9_1VotesAny(t *testing.T) {
	d := draw(11)
	seen := [2]int{}
	for range 30000 {
		c := d.council()
		_, all := weights(c)
		law := c.Laws[d.below(int64(len(c.Laws)))]
		edge := func(n int64) int64 { return max(n*(all/1000)+n*(all%1000)/1000+d.below(3)-1, 0) }
		yes := d.oneOf(edge(law.Share), d.below(all+1))
		no := d.oneOf(max(edge(law.Quorum)-yes, 0), d.below(all+1))
		ok := council.Votes(c, law.Act, yes, no)
		if ok != enough(c, law, yes, no) {
			t.Fatal(c, law, yes, no, ok)
		}
		if ok {
			seen[1]++
		} else {
			seen[0]++
		}
		other := d.upTo(9)
		if !slices.ContainsFunc(c.Laws, func(x api.Law) bool { return x.Act == other }) && council.Votes(c, other, all, 0) {
			t.Fatal("no law", c, other)
		}
	}
	if seen[0] < 3000 || seen[1] < 3000 {
		t.Error("too few cases", seen)
	}
}
