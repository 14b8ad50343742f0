package council

import (
	"cmp"
	"slices"

	"bolide/api"
)

// session is a house in which items are done, by a valid council.
type session struct {
	council api.Council
	tick    int64
	forReal ledger
	drill   ledger
}

// deed does an item of a kind; with an error nothing changes.
type deed func(s *session, x api.Item) api.Errno

// deeds returns what is done for each kind of items.
func deeds() map[int]deed {
	return map[int]deed{
		api.ItemFact:   (*session).fact,
		api.ItemMotion: (*session).motion,
		api.ItemVote:   (*session).vote,
		api.ItemClose:  (*session).end,
	}
}

// ledger returns the ledger of exercises, or the one of all else.
func (s *session) ledger(drill bool) (l *ledger) {
	l = &s.forReal
	if drill {
		l = &s.drill
	}
	return l
}

// house returns the house as plain data.
func (s *session) house() api.House {
	return api.House{Tick: s.tick, Real: s.forReal.plain(), Drill: s.drill.plain()}
}

// do does an item.
func (s *session) do(x api.Item) api.Errno {
	if !isFrom(0, api.MaxTick, x.Tick) {
		return api.ErrRange
	}
	if x.Tick < s.tick {
		return api.ErrOrder
	}
	run, ok := deeds()[x.Kind]
	if !ok {
		return api.ErrKind
	}
	if e := run(s, x); e != api.OK {
		return e
	}
	s.tick = x.Tick
	s.ledger(x.Drill).items++
	return api.OK
}

// fact makes a chance known; alarms follow its level, and motions that need a greater one are void.
func (s *session) fact(x api.Item) api.Errno {
	if !isFrom(1, api.MaxTargets, int64(x.A)) {
		return api.ErrRange
	}
	if e := CheckChance(x.Chance); e != api.OK {
		return e
	}
	l := s.ledger(x.Drill)
	before, _ := l.known(x.A) // the level 0 if it was not known
	now := api.Known{Target: x.A, Level: levelOf(s.council.Levels, x.Chance), Item: l.items, Chance: x.Chance}
	l.learn(now)
	l.follow(x.Tick, x.A, before.Level, now.Level)
	s.void(l, now)
	return api.OK
}

// void ends the open motions on a target whose laws have a greater level than what is now known of it.
func (s *session) void(l *ledger, now api.Known) {
	for i, m := range l.motions {
		if m.State == api.MotionOpen && m.Target == now.Target && s.law(m).Level > now.Level {
			l.motions[i].State, l.motions[i].Fact = api.MotionVoid, now.Item
		}
	}
}

// law returns the law under which a motion was opened.
func (s *session) law(m api.Motion) api.Law {
	law, _ := lawOf(s.council, m.Act)
	return law
}

// motion opens a motion.
func (s *session) motion(x api.Item) api.Errno {
	l := s.ledger(x.Drill)
	law, isLaw := lawOf(s.council, x.B)
	known, isKnown := l.known(x.A)
	switch {
	case !isLaw || !isKnown:
		return api.ErrMissing
	case known.Level < law.Level:
		return api.ErrState
	case l.isMoved(x.A, x.B):
		return api.ErrExists
	case len(l.motions) >= api.MaxMotions:
		return api.ErrFull
	}
	l.motions = append(l.motions, api.Motion{Target: x.A, Act: x.B, Opened: x.Tick, State: api.MotionOpen, Fact: -1})
	return api.OK
}

// checkMotion returns ErrExercise if the motion of an item is in the other ledger alone, ErrMissing if it is in none.
func (s *session) checkMotion(x api.Item) api.Errno {
	switch {
	case s.ledger(x.Drill).has(x.A):
		return api.OK
	case s.ledger(!x.Drill).has(x.A):
		return api.ErrExercise
	}
	return api.ErrMissing
}

// isAfter reports whether at a tick the window of a motion is over.
func (s *session) isAfter(tick int64, m api.Motion) bool {
	return tick > m.Opened+s.law(m).Window
}

// vote counts the weight of a member for or against a motion.
func (s *session) vote(x api.Item) api.Errno {
	if e := s.checkMotion(x); e != api.OK {
		return e
	}
	m := &s.ledger(x.Drill).motions[x.A]
	member, ok := memberOf(s.council, x.B)
	switch {
	case !ok:
		return api.ErrMissing
	case m.State != api.MotionOpen:
		return api.ErrState
	case slices.Contains(m.Voted, x.B):
		return api.ErrExists
	case s.isAfter(x.Tick, *m):
		return api.ErrLate
	}
	if x.Yes {
		m.Yes += member.Weight
	} else {
		m.No += member.Weight
	}
	m.Voted = append(m.Voted, x.B)
	return api.OK
}

// end closes a motion, which then passed or failed.
func (s *session) end(x api.Item) api.Errno {
	if e := s.checkMotion(x); e != api.OK {
		return e
	}
	l := s.ledger(x.Drill)
	m := &l.motions[x.A]
	if m.State != api.MotionOpen {
		return api.ErrState
	}
	if len(m.Voted) < len(s.council.Members) && !s.isAfter(x.Tick, *m) {
		return api.ErrOrder
	}
	m.State = api.MotionFailed
	if hasVotes(s.council, s.law(*m), m.Yes, m.No) {
		m.State = api.MotionPassed
	}
	known, _ := l.known(m.Target) // it is: otherwise there would be no motion
	m.Fact = known.Item
	return api.OK
}

// checkItems returns ErrFull for more items than can be done.
func checkItems(l []api.Item) api.Errno {
	if len(l) > api.MaxItems {
		return api.ErrFull
	}
	return api.OK
}

// Build does items, one after the other, and returns the house, and -1; or the house before the first item that has an error, its number, and the error.
func Build(c api.Council, l []api.Item) (api.House, int, api.Errno) {
	if e := cmp.Or(Check(c), checkItems(l)); e != api.OK {
		return api.House{}, -1, e
	}
	s := session{council: c}
	for i, x := range l {
		if e := s.do(x); e != api.OK {
			return s.house(), i, e
		}
	}
	return s.house(), -1, api.OK
}

// AsOf returns the house as it was at a tick, up to the first item that has an error.
func AsOf(c api.Council, l []api.Item, tick int64) (api.House, api.Errno) {
	if e := cmp.Or(Check(c), checkItems(l)); e != api.OK {
		return api.House{}, e
	}
	if !isFrom(0, api.MaxTick, tick) {
		return api.House{}, api.ErrRange
	}
	if n := slices.IndexFunc(l, func(x api.Item) bool { return x.Tick > tick }); n >= 0 {
		l = l[:n]
	}
	house, _, _ := Build(c, l)
	return house, api.OK
}

// Alarms returns what items send in the real ledger.
func Alarms(c api.Council, l []api.Item) ([]api.Alarm, api.Errno) {
	house, _, e := Build(c, l)
	if e != api.OK {
		return nil, e
	}
	return house.Real.Sent, api.OK
}

// Why returns the chance of the fact by which a motion of the real ledger was decided.
func Why(c api.Council, l []api.Item, motion int) (api.Chance, api.Errno) {
	house, _, e := Build(c, l)
	if e != api.OK {
		return api.Chance{}, e
	}
	motions := house.Real.Motions
	if motion < 0 || motion >= len(motions) {
		return api.Chance{}, api.ErrMissing
	}
	if motions[motion].State == api.MotionOpen {
		return api.Chance{}, api.ErrState
	}
	return realItem(l, motions[motion].Fact).Chance, api.OK
}

// realItem returns the item with a number in the real ledger.
func realItem(l []api.Item, number int) api.Item {
	for _, x := range l {
		if x.Drill {
			continue
		}
		if number == 0 {
			return x
		}
		number--
	}
	return api.Item{}
}
