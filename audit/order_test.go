package audit_test

import (
	"testing"

	"tripwire/api"
)

// wrongs are turns of one reply, each of which is wrong alone, in the order in which they are asked for: the first of any two is told (R1).
type wrongs []struct {
	turn func(s *step)
	e    api.Errno
	at   int
}

// expectInOrder tries each turn alone, and with each that comes behind it.
func expectInOrder(t *testing.T, c api.Config, s step, all wrongs) {
	t.Helper()
	for k, x := range all {
		expectWrong(t, stagedBy(t, c), s.turned(x.turn), x.e, x.at)
		for _, y := range all[k+1:] {
			expectWrong(t, stagedBy(t, c), s.turned(func(s *step) { y.turn(s); x.turn(s) }), x.e, x.at)
		}
	}
}

// Of an entry by hand, that sets a strategy going.
func TestSeveralWrongOfAnEntry(t *testing.T) {
	s := step{sell(1, 12, 2), api.Reply{ID: 7, Rounds: 3, Steps: 5, Top: api.Top{Bid: 9, Ask: 10}, Told: told(
		accepted(7, 1, sells, 12, 2), rested(7, 1, sells, 12, 2), fired(4), accepted(8, 3, buys, 9, 2), rested(8, 3, buys, 9, 2), reject(4), cutoff())}}
	expectSeen(t, staged(t), s)
	expectInOrder(t, plain(), s, wrongs{
		{func(s *step) { s.r.Err = 220 }, badReply, 0},
		{func(s *step) { s.r.At = 1 }, badReply, 0},
		{func(s *step) { s.c.Client = 4 }, badReply, 0},
		{func(s *step) { s.r.Usage.Acts = 1 }, badReply, 0},
		{func(s *step) { s.c.Entry.Qty = 3 }, badTold, 0},
		{func(s *step) { s.r.Told[0].Rule = 1 }, badTold, 0},
		{func(s *step) { s.r.Told[0].Event.Was = 1 }, badEvent, 0},
		{func(s *step) { s.r.Told[1].Code = 1 }, badTold, 1},
		{func(s *step) { s.r.Told[1].Event.Qty = 1 }, badEvent, 1},
		{func(s *step) { s.r.Told[2].Rule = -1 }, badTold, 2},
		{func(s *step) { s.r.Told[3].Action = 1 }, badTold, 3},
		{func(s *step) { s.r.Told[3].Event.ID = 9 }, badEvent, 3},
		{func(s *step) { s.r.Told[4].Event.Other = 9 }, badEvent, 4},
		{func(s *step) { s.r.Told[5].Code = 0 }, badTold, 5},
		{func(s *step) { s.r.Rounds = 2 }, badTold, 6},
		{func(s *step) { s.r.Top.Bid = 8 }, badTop, 0},
	})
}

// Of one event: what is beside it, whether it can be, whether it was let out, and whether it is within quotas.
func TestSeveralWrongOfAnEvent(t *testing.T) {
	c := with(func(c *api.Config) { c.Acts, c.IDs = 3, 6 })
	beside := func(s *step) { s.r.Told[0].Strategy = 1 }
	cannotBe := func(s *step) { s.r.Told[0].Event.Was = 9 }
	// Nobody has fired, and client 1 has no action left, nor has the market a number.
	s := ticked(sceneTop(), accepted(7, 1, buys, 9, 1), dropped(7, 1, buys, 9, 1))
	expectWrong(t, stagedBy(t, c), s.turned(func(s *step) { beside(s); cannotBe(s) }), badTold, 0)
	expectWrong(t, stagedBy(t, c), s.turned(cannotBe), badEvent, 0)
	expectWrong(t, stagedBy(t, c), s, badTold, 0)
	s = ticked(sceneTop(), fired(1), accepted(7, 1, buys, 9, 1), dropped(7, 1, buys, 9, 2))
	expectWrong(t, stagedBy(t, c), s, badQuota, 1)
	expectWrong(t, stagedBy(t, c), s.turned(func(s *step) { s.r.Told[1].Event.Was = 9 }), badEvent, 1)
	expectWrong(t, stagedBy(t, c), s.turned(func(s *step) { s.r.Told[1].Event.Client = 3 }), badTold, 1)
	// By hand: it was not asked for; it cannot be; it is beyond quotas.
	s = step{buy(1, 9, 1), api.Reply{ID: 7, Told: told(accepted(7, 1, buys, 9, 1), dropped(7, 1, buys, 9, 1)), Top: sceneTop()}}
	expectWrong(t, stagedBy(t, c), s, badQuota, 0)
	expectWrong(t, stagedBy(t, c), s.turned(cannotBe), badEvent, 0)
	expectWrong(t, stagedBy(t, c), s.turned(func(s *step) { cannotBe(s); s.c.Entry.Price = 8 }), badTold, 0)
	// A reject: what is wrong with it comes ahead of quotas.
	expectWrong(t, stagedBy(t, c), ticked(sceneTop(), fired(1), reject(1)), badQuota, 1)
	expectWrong(t, stagedBy(t, c), ticked(sceneTop(), fired(1), api.Told{Tell: api.TellReject, Strategy: 1}), badTold, 1)
	expectWrong(t, stagedBy(t, c), ticked(sceneTop(), fired(4), reject(1)), badTold, 1)
}

// What a command does comes behind what is asked of it, and ahead of the top.
func TestSeveralWrongOfACommand(t *testing.T) {
	c := with(func(c *api.Config) { c.Strats = 2 })
	s := step{upload(1, "s"), api.Reply{ID: 6}}
	expectWrong(t, stagedBy(t, c), s, badQuota, 0)
	expectWrong(t, stagedBy(t, c), s.turned(func(s *step) { s.r.ID = 5 }), badReply, 0)
	expectWrong(t, stagedBy(t, c), s.turned(func(s *step) { s.r.Steps = 1 }), badReply, 0)
	// The top comes ahead of what is dumped, and an entry under way ahead of both.
	for op, s := range answers() {
		wrong := s.turned(func(s *step) { s.r.Top.Last = 1 })
		switch op {
		case api.OpBook:
			wrong.r.Orders = nil
		case api.OpQuota:
			wrong.r.Usage.Lots++
		case api.OpStatus:
			wrong.r.Stand.ID++
		case api.OpEnter:
			wrong.r.Told = wrong.r.Told[:1]
			expectWrong(t, staged(t), wrong, badEvent, 1)
			continue
		}
		expectWrong(t, staged(t), wrong, badTop, 0)
	}
	// A cutoff that is not the last thing, behind which an entry is begun, and not ended.
	s = ticked(sceneTop(), fired(1), cutoff(), accepted(7, 1, buys, 9, 1))
	s.r.Rounds = 3
	expectWrong(t, staged(t), s, badTold, 1)
	// A thing told while an entry is under way comes ahead of the entry that does not end.
	expectWrong(t, staged(t), ticked(sceneTop(), fired(1), accepted(7, 1, buys, 9, 1), fired(1)), badTold, 2)
}

// Behind a wrong reply each Sees answers the same, whatever it sees; and all stays as it was.
func TestBehindAWrongReply(t *testing.T) {
	for _, x := range []struct {
		s  step
		e  api.Errno
		at int
	}{
		{step{tick(0), api.Reply{Top: sceneTop()}}, badReply, 0},
		{step{cancel(1, 3), api.Reply{Top: sceneTop()}}, badTold, 0},
		{ticked(sceneTop(), fired(1), fired(4), fired(2)), badTold, 2},
		{buysAll().turned(func(s *step) { s.r.Told = s.r.Told[:5] }), badEvent, 5},
		{step{upload(1, "s"), api.Reply{ID: 6, Top: sceneTop()}}, badQuota, 0},
		{step{tick(10), api.Reply{}}, badTop, 0},
		{step{book(), api.Reply{Top: sceneTop()}}, badDump, 0},
	} {
		j := stagedBy(t, with(func(c *api.Config) { c.Strats = 2 }))
		ahead := seen(j)
		expectWrong(t, j, x.s, x.e, x.at)
		for _, s := range append(append(trueOnes(), scene()...), answers()[api.OpBook], step{book(), api.Reply{Err: 5}}, step{tick(9), api.Reply{Err: 5, At: 1}}, x.s) {
			if e, at := j.Sees(s.c, s.r); e != x.e || at != x.at {
				t.Errorf("%+v: %d at %d; want %d at %d", s.c, e, at, x.e, x.at)
			}
		}
		if behind := seen(j); !same(ahead, behind) {
			t.Errorf("%+v; want %+v", behind, ahead)
		}
	}
}

// What a wrong reply has done ahead of what is wrong in it is undone: all its parts in turn.
func TestUndone(t *testing.T) {
	for _, s := range trueOnes() {
		for n := range s.r.Told {
			j := staged(t)
			x := s.turned(func(s *step) { s.r.Told = append(s.r.Told[:n:n], api.Told{Tell: 9}) })
			ahead := seen(j)
			if e, at := j.Sees(x.c, x.r); e != badTold || at != n {
				t.Errorf("%+v: %d at %d", x.r, e, at)
			}
			if behind := seen(j); !same(ahead, behind) {
				t.Errorf("%+v; want %+v", behind, ahead)
			}
		}
	}
}
