package audit_test

import (
	"reflect"
	"testing"

	"tripwire/api"
)

// The first thing that is told of an entry, an amend, a cancel is what was asked for.
func TestTheFirstThing(t *testing.T) {
	all := answers()
	for _, op := range []api.Op{api.OpEnter, api.OpAmend, api.OpCancel} {
		s := all[op]
		first := s.r.Told[0].Event
		for _, x := range []api.Told{
			fired(1), refused(1), halted(1), faulted(1), cutoff(), {}, {Tell: api.TellEvent}, {Tell: 8, Event: first}, {Event: first},
			happened(accepted(7, 1, sells, 12, 3)), happened(accepted(7, 1, sells, 13, 2)), happened(accepted(7, 1, buys, 12, 2)), happened(accepted(7, 3, sells, 12, 2)), happened(accepted(8, 1, sells, 12, 2)),
			happened(amended(3, 1, sells, 12, 3, 3)), happened(amended(3, 1, sells, 13, 2, 3)), happened(amended(1, 1, sells, 12, 2, 5)), happened(amended(3, 3, sells, 12, 2, 3)),
			happened(reduced(1, 1, sells, 10, 2, 5)), happened(reduced(3, 1, sells, 11, 2, 3)),
			happened(withdrawn(1, 1, sells, 10, 5)), happened(withdrawn(6, 1, buys, 8, 1)), happened(withdrawn(3, 2, sells, 11, 3)),
			happened(rested(7, 1, sells, 12, 2)), happened(dropped(7, 1, sells, 12, 2)), happened(traded(7, 4, 1, 3, sells, 8, 2)), happened(yielded(6, 7, 1, buys, 8, 1)),
		} {
			expectWrong(t, staged(t), s.turned(func(s *step) { s.r.Told[0] = x }), badTold, 0)
			expectWrong(t, staged(t), s.turned(func(s *step) { s.r.Told = append([]api.Told{x}, s.r.Told...) }), badTold, 0)
		}
		// What is told of another Op's command.
		for _, other := range []api.Op{api.OpEnter, api.OpAmend, api.OpCancel} {
			if other != op {
				expectWrong(t, staged(t), s.turned(func(s *step) { s.r.Told = all[other].r.Told }), badTold, 0)
			}
		}
	}
}

// Which fields of the command the first thing is held against, and which are not looked at.
func TestTheCommandsFields(t *testing.T) {
	for op, turns := range map[api.Op][]func(c *api.Command){
		api.OpEnter: {
			func(c *api.Command) { c.Entry.Side = buys }, func(c *api.Command) { c.Entry.Side = 0 }, func(c *api.Command) { c.Entry.Price++ }, func(c *api.Command) { c.Entry.Price = 0 },
			func(c *api.Command) { c.Entry.Qty-- }, func(c *api.Command) { c.Entry.Qty = 0 }, func(c *api.Command) { c.Client = 2 },
		},
		api.OpAmend: {
			func(c *api.Command) { c.ID = 1 }, func(c *api.Command) { c.ID = 0 }, func(c *api.Command) { c.Price++ }, func(c *api.Command) { c.Qty++ }, func(c *api.Command) { c.Client = 3 },
		},
		api.OpCancel: {
			func(c *api.Command) { c.ID = 1 }, func(c *api.Command) { c.ID = 0 }, func(c *api.Command) { c.Client = 3 },
		},
	} {
		for _, turn := range turns {
			expectWrong(t, staged(t), answers()[op].turned(func(s *step) { turn(&s.c) }), badTold, 0)
		}
	}
	for op, s := range answers() {
		expectSeen(t, staged(t), s.turned(func(s *step) {
			c := s.c
			s.c = api.Command{Op: op, Client: c.Client, Entry: api.Entry{Client: 9, Kind: 9, Side: 9, Price: -9, Qty: -9}, ID: -9, Price: -9, Qty: -9, Time: -9, Source: "none"}
			switch op {
			case api.OpEnter:
				s.c.Entry.Side, s.c.Entry.Price, s.c.Entry.Qty = c.Entry.Side, c.Entry.Price, c.Entry.Qty
			case api.OpAmend:
				s.c.ID, s.c.Price, s.c.Qty = c.ID, c.Price, c.Qty
			case api.OpCancel, api.OpStart, api.OpStop, api.OpDrop, api.OpStatus:
				s.c.ID = c.ID
			case api.OpTick:
				s.c.Time = c.Time
			}
		}))
	}
}

// An amend by hand may be told as Reduced, and may trade.
func TestAmendsByHand(t *testing.T) {
	expectSeen(t, staged(t), step{amend(1, 1, 10, 2), api.Reply{Told: told(reduced(1, 1, sells, 10, 2, 5)), Top: sceneTop()}})
	s := comesAnew()
	expectSeen(t, staged(t), step{amend(1, 3, 8, 4), api.Reply{Told: s.r.Told[1:], Top: s.r.Top}})
	// The event itself must be one that can be.
	expectWrong(t, staged(t), step{amend(1, 1, 10, 5), api.Reply{Told: told(reduced(1, 1, sells, 10, 5, 5)), Top: sceneTop()}}, badEvent, 0)
	expectWrong(t, staged(t), step{amend(1, 1, 0, 5), api.Reply{Told: told(amended(1, 1, sells, 0, 5, 5)), Top: sceneTop()}}, badEvent, 0)
	expectWrong(t, staged(t), step{amend(1, 2, 10, 3), api.Reply{Told: told(reduced(2, 1, sells, 10, 3, 4)), Top: sceneTop()}}, badEvent, 0)
	expectWrong(t, staged(t), step{cancel(1, 2), api.Reply{Told: told(withdrawn(2, 1, sells, 10, 4)), Top: sceneTop()}}, badEvent, 0)
	expectWrong(t, staged(t), step{cancel(1, 9), api.Reply{Told: told(withdrawn(9, 1, sells, 10, 4)), Top: sceneTop()}}, badEvent, 0)
}

// An event is told with nothing beside it.
func TestEventsHaveNothingBeside(t *testing.T) {
	for _, s := range append(trueOnes(), answers()[api.OpEnter], answers()[api.OpAmend], answers()[api.OpCancel]) {
		for at, x := range s.r.Told {
			if x.Tell != api.TellEvent {
				continue
			}
			for _, n := range []int{least, -1, 1, 2, greatest} {
				for _, turn := range []func(x *api.Told){
					func(x *api.Told) { x.Strategy = n }, func(x *api.Told) { x.Rule = n }, func(x *api.Told) { x.Action = n }, func(x *api.Told) { x.Code = api.Errno(n) },
				} {
					expectWrong(t, staged(t), s.turned(func(s *step) { turn(&s.r.Told[at]) }), badTold, at)
				}
			}
		}
	}
}

// An action that no command asked for is let out by a strategy of its client, which was told as fired ahead of it, in that reply.
func TestActionsAreLetOut(t *testing.T) {
	enters := rests(7, 1, sells, 12, 2, sceneTop())
	for _, first := range []api.Event{withdrawn(3, 1, sells, 11, 3), reduced(1, 1, sells, 10, 2, 5), amended(3, 1, sells, 12, 3, 3), accepted(7, 1, buys, 9, 3)} {
		for _, x := range []struct {
			ahead []any
			e     api.Errno
		}{
			{nil, badTold}, {[]any{fired(4)}, badTold}, {[]any{refused(1)}, badTold}, {[]any{halted(1)}, badTold}, {[]any{faulted(1)}, badTold}, {[]any{fired(4), reject(4)}, badTold},
			{[]any{fired(1)}, ok}, {[]any{fired(1), fired(4)}, ok}, {[]any{fired(4), fired(1)}, ok}, {[]any{fired(1), halted(1)}, ok}, {[]any{fired(1), faulted(1)}, ok}, {[]any{fired(1), reject(1)}, ok}, {[]any{refused(1), fired(1)}, ok},
		} {
			l := append(x.ahead, first)
			switch first.What {
			case api.Amended:
				l = append(l, rested(3, 1, sells, 12, 3))
			case api.Accepted:
				l = append(l, dropped(7, 1, buys, 9, 3))
			}
			if x.e == ok {
				expectSeen(t, staged(t), ticked(sceneTop(), l...))
			} else {
				expectWrong(t, staged(t), ticked(sceneTop(), l...), x.e, len(x.ahead))
			}
		}
	}
	// What fired in a reply ahead of this one, or behind the action, does not count.
	j := staged(t)
	expectSeen(t, j, ticked(sceneTop(), fired(1)))
	expectWrong(t, j, ticked(sceneTop(), withdrawn(3, 1, sells, 11, 3), fired(1)), badTold, 0)
	// Of a command by hand the first thing alone is asked for: not what is behind it.
	expectWrong(t, staged(t), enters.turned(func(s *step) { s.r.Told = append(s.r.Told, happened(withdrawn(3, 1, sells, 11, 3))) }), badTold, 2)
	expectSeen(t, staged(t), enters.turned(func(s *step) { s.r.Told = append(s.r.Told, told(fired(1), withdrawn(3, 1, sells, 11, 3))...) }))
	// Another strategy of the same client may have fired, started in this very reply.
	j = staged(t)
	expectSeen(t, j, step{start(1, 3), api.Reply{Rounds: 1, Top: sceneTop(), Told: told(fired(3), withdrawn(3, 1, sells, 11, 3))}})
	// Trades, yields and what ends an entry are no actions: the other client need not have fired.
	expectSeen(t, staged(t), buysAll())
}

// things are the Tells that name a strategy, of one; what must be told ahead of each is its firing.
func things(strategy int) []api.Told {
	return []api.Told{fired(strategy), refused(strategy), reject(strategy), halted(strategy), faulted(strategy)}
}

// Each Tell of a strategy that there is, and runs.
func TestEachTell(t *testing.T) {
	for _, strategy := range []int{1, 4} {
		for _, x := range things(strategy) {
			expectSeen(t, staged(t), ticked(sceneTop(), fired(strategy), x))
		}
	}
}

// Each Tell of a strategy that there is not, one that does not run, and TellReject of one that was not told as fired.
func TestStrategiesThatCannotBe(t *testing.T) {
	for _, id := range []int{least, -1, 0, 2, 3, 5, 6, greatest} {
		for _, x := range things(id) {
			expectWrong(t, staged(t), ticked(sceneTop(), x), badTold, 0)
			expectWrong(t, staged(t), ticked(sceneTop(), fired(1), fired(4), x), badTold, 2)
		}
	}
	for _, ahead := range [][]any{nil, {fired(4)}, {refused(1)}} {
		expectWrong(t, staged(t), ticked(sceneTop(), append(ahead, reject(1))...), badTold, len(ahead))
	}
	// Another strategy of the same client has fired: not this one.
	j := staged(t)
	expectSeen(t, j, step{start(1, 3), api.Reply{Top: sceneTop(), Rounds: 1}})
	expectWrong(t, j, ticked(sceneTop(), fired(1), reject(3)), badTold, 1)
	j = staged(t)
	expectSeen(t, j, ticked(sceneTop(), fired(1), reject(1)))
	expectWrong(t, j, ticked(sceneTop(), reject(1)), badTold, 0)
}

// One that was told as halted or faulted runs no more; what it has let out may be refused still.
func TestBehindTheEnd(t *testing.T) {
	for _, end := range []api.Told{halted(1), faulted(1)} {
		expectSeen(t, staged(t), ticked(sceneTop(), fired(1), end, reject(1), withdrawn(3, 1, sells, 11, 3)))
		for _, x := range []api.Told{fired(1), refused(1), halted(1), faulted(1)} {
			expectWrong(t, staged(t), ticked(sceneTop(), fired(1), end, x), badTold, 2)
			j := staged(t)
			expectSeen(t, j, ticked(sceneTop(), fired(1), end))
			expectWrong(t, j, ticked(sceneTop(), x), badTold, 0)
		}
		j := staged(t)
		expectSeen(t, j, ticked(sceneTop(), end), step{start(1, 1), api.Reply{Told: told(fired(1)), Rounds: 1, Top: sceneTop()}}, step{stop(1, 1), api.Reply{Top: sceneTop()}})
		j = staged(t)
		expectSeen(t, j, ticked(sceneTop(), end))
		expectWrong(t, j, step{stop(1, 1), api.Reply{Top: sceneTop()}}, badReply, 0)
	}
	// One that fired, or was refused, runs on.
	for _, x := range []api.Told{fired(1), refused(1)} {
		j := staged(t)
		expectSeen(t, j, ticked(sceneTop(), x, x, x), step{stop(1, 1), api.Reply{Top: sceneTop()}})
		expectWrong(t, j, ticked(sceneTop(), x), badTold, 0)
	}
}

// Each Tell while an entry is under way.
func TestTellsWhileUnderWay(t *testing.T) {
	for _, x := range append(things(1), cutoff()) {
		s := ticked(sceneTop(), fired(1), accepted(7, 1, buys, 9, 3), x, dropped(7, 1, buys, 9, 3))
		expectWrong(t, staged(t), s, badTold, 2)
		s.r.Told, s.r.Rounds = s.r.Told[:3], 3
		expectWrong(t, staged(t), s, badTold, 2)
		s = ticked(api.Top{Bid: 8, Ask: 10, Last: 10, Volume: 1}, fired(1), fired(4), accepted(7, 3, buys, 10, 1), traded(7, 1, 3, 1, buys, 10, 1), x)
		s.r.Rounds = 3
		expectSeen(t, staged(t), s)
	}
}

// Each Tell with each field that it does not name set, and with those that it names at their edges.
func TestTheFieldsOfTells(t *testing.T) {
	named := map[api.Tell]map[string]int{
		api.TellFired: {"Strategy": 1, "Rule": 1}, api.TellRefused: {"Strategy": 1, "Rule": 1}, api.TellReject: {"Strategy": 1, "Action": 1, "Code": 1},
		api.TellHalted: {"Strategy": 1}, api.TellFaulted: {"Strategy": 1, "Code": 1}, api.TellCutoff: {},
	}
	of := reflect.TypeFor[api.Told]()
	for _, x := range append(things(1), cutoff()) {
		s := ticked(sceneTop(), fired(1), x)
		s.r.Rounds = 3
		expectSeen(t, staged(t), s)
		for k := range of.NumField() {
			name := of.Field(k).Name
			if name == "Tell" || name == "Event" || named[x.Tell][name] > 0 {
				continue
			}
			for _, n := range []int64{least, -1, 1, 2, greatest} {
				expectWrong(t, staged(t), s.turned(func(s *step) { set(reflect.ValueOf(&s.r.Told[1]).Elem().Field(k), n) }), badTold, 1)
			}
		}
		for k := range reflect.TypeFor[api.Event]().NumField() {
			expectWrong(t, staged(t), s.turned(func(s *step) { set(reflect.ValueOf(&s.r.Told[1].Event).Elem().Field(k), 1) }), badTold, 1)
		}
	}
	for _, n := range []int{0, 1, 11, 12, greatest} {
		expectSeen(t, staged(t), ticked(sceneTop(), api.Told{Tell: api.TellFired, Strategy: 1, Rule: n}, api.Told{Tell: api.TellRefused, Strategy: 1, Rule: n}, api.Told{Tell: api.TellReject, Strategy: 1, Action: n, Code: 1}))
	}
	for _, n := range []int{least, -1} {
		expectWrong(t, staged(t), ticked(sceneTop(), api.Told{Tell: api.TellFired, Strategy: 1, Rule: n}), badTold, 0)
		expectWrong(t, staged(t), ticked(sceneTop(), api.Told{Tell: api.TellRefused, Strategy: 1, Rule: n}), badTold, 0)
		expectWrong(t, staged(t), ticked(sceneTop(), fired(1), api.Told{Tell: api.TellReject, Strategy: 1, Action: n, Code: 1}), badTold, 1)
	}
	for _, code := range []api.Errno{least, -1, 1, 90, greatest} {
		expectSeen(t, staged(t), ticked(sceneTop(), fired(1), api.Told{Tell: api.TellReject, Strategy: 1, Code: code}, api.Told{Tell: api.TellFaulted, Strategy: 1, Code: code}))
	}
	expectWrong(t, staged(t), ticked(sceneTop(), fired(1), api.Told{Tell: api.TellReject, Strategy: 1}), badTold, 1)
	expectWrong(t, staged(t), ticked(sceneTop(), fired(1), api.Told{Tell: api.TellFaulted, Strategy: 1}), badTold, 1)
}

// Every Tell that there is not, with whatever.
func TestOtherTells(t *testing.T) {
	for tell := range 256 {
		if tell >= 1 && tell <= 7 {
			continue
		}
		for _, x := range append(things(1), cutoff(), happened(withdrawn(3, 1, sells, 11, 3))) {
			x.Tell = api.Tell(tell)
			expectWrong(t, staged(t), ticked(sceneTop(), fired(1), x), badTold, 1)
		}
	}
}

// TellCutoff is the last thing, behind as many rounds as may be.
func TestCutoff(t *testing.T) {
	for _, rounds := range []int{1, 3, 16} {
		c := with(func(c *api.Config) { c.Rounds = rounds })
		cut := func(n int, all ...any) step {
			return step{tick(2), api.Reply{Told: told(all...), Rounds: n, Top: sceneTop()}}
		}
		expectSeen(t, stagedBy(t, c), cut(rounds, cutoff()), cut(rounds, fired(1), cutoff()))
		for n := range rounds {
			expectWrong(t, stagedBy(t, c), cut(n, cutoff()), badTold, 0)
			expectWrong(t, stagedBy(t, c), cut(n, fired(1), cutoff()), badTold, 1)
		}
		expectWrong(t, stagedBy(t, c), cut(rounds+1, cutoff()), badReply, 0)
		for _, x := range append(things(1), cutoff(), happened(withdrawn(3, 1, sells, 11, 3))) {
			expectWrong(t, stagedBy(t, c), cut(rounds, fired(1), cutoff(), x), badTold, 1)
		}
		// So many rounds without a cutoff may be, too.
		expectSeen(t, stagedBy(t, c), cut(rounds, fired(1)))
	}
	// Of a command by hand, too; but not as its first thing.
	s := rests(7, 1, sells, 12, 2, sceneTop())
	s.r.Rounds = 3
	expectSeen(t, staged(t), s.turned(func(s *step) { s.r.Told = append(s.r.Told, cutoff()) }))
	expectWrong(t, staged(t), s.turned(func(s *step) { s.r.Told = told(cutoff()) }), badTold, 0)
}
