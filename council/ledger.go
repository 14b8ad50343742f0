package council

import (
	"cmp"
	"slices"

	"bolide/api"
)

// channel keeps the alarms that were sent.
type channel struct {
	sent []api.Alarm
}

// follow sends an alarm if the level of a target is not the one that it was before.
func (c *channel) follow(tick int64, target, before, level int) {
	if level != before {
		c.sent = append(c.sent, api.Alarm{Tick: tick, Target: target, Level: level, Back: level < before})
	}
}

// ledger is an api.Ledger that is being written; each has a channel of its own.
type ledger struct {
	channel
	items   int
	facts   []api.Known
	motions []api.Motion
}

// plain returns a ledger as plain data.
func (l *ledger) plain() api.Ledger {
	return api.Ledger{Items: l.items, Facts: l.facts, Motions: l.motions, Sent: l.sent}
}

// known returns what is known of a target, and whether anything is.
func (l *ledger) known(target int) (api.Known, bool) {
	return Of(l.plain(), target)
}

// learn keeps what is now known of a target, ordered by target.
func (l *ledger) learn(k api.Known) {
	i, found := slices.BinarySearchFunc(l.facts, k.Target, func(k api.Known, target int) int { return cmp.Compare(k.Target, target) })
	if !found {
		l.facts = slices.Insert(l.facts, i, k)
	}
	l.facts[i] = k
}

// has reports whether there is a motion with this number.
func (l *ledger) has(motion int) bool {
	return 0 <= motion && motion < len(l.motions)
}

// isMoved reports whether a motion on a target with an act is open.
func (l *ledger) isMoved(target, act int) bool {
	return slices.ContainsFunc(l.motions, func(m api.Motion) bool {
		return m.State == api.MotionOpen && m.Target == target && m.Act == act
	})
}

// Of returns what a ledger knows of a target, and true; the zero value and false if it knows nothing.
func Of(x api.Ledger, target int) (api.Known, bool) {
	return find(x.Facts, func(k api.Known) bool { return k.Target == target })
}

// Passed returns the number of the last motion of a ledger with a target and an act that passed, and true; -1 and false if there is none.
func Passed(x api.Ledger, target, act int) (int, bool) {
	for i, m := range slices.Backward(x.Motions) {
		if m.State == api.MotionPassed && m.Target == target && m.Act == act {
			return i, true
		}
	}
	return -1, false
}

// sameMotion reports whether two motions are equal in everything.
func sameMotion(a, b api.Motion) bool {
	return a.Target == b.Target && a.Act == b.Act && a.Opened == b.Opened && a.State == b.State &&
		a.Yes == b.Yes && a.No == b.No && slices.Equal(a.Voted, b.Voted) && a.Fact == b.Fact
}

// sameLedger reports whether two ledgers are equal in everything.
func sameLedger(a, b api.Ledger) bool {
	return a.Items == b.Items && slices.Equal(a.Facts, b.Facts) && slices.EqualFunc(a.Motions, b.Motions, sameMotion) && slices.Equal(a.Sent, b.Sent)
}

// Same reports whether two houses are equal in everything.
func Same(a, b api.House) bool {
	return a.Tick == b.Tick && sameLedger(a.Real, b.Real) && sameLedger(a.Drill, b.Drill)
}
