package audit_test

import (
	"testing"

	"tripwire/api"
)

// answers are true steps of each Op in the scene, of client 1 where a client is asked for.
func answers() map[api.Op]step {
	top := sceneTop()
	return map[api.Op]step{
		api.OpEnter:  rests(7, 1, api.Sell, 12, 2, top),
		api.OpAmend:  {amend(1, 3, 12, 2), api.Reply{Told: told(amended(3, 1, api.Sell, 12, 2, 3), rested(3, 1, api.Sell, 12, 2)), Top: top}},
		api.OpCancel: {cancel(1, 3), api.Reply{Told: told(withdrawn(3, 1, api.Sell, 11, 3)), Top: top}},
		api.OpTick:   {tick(4), api.Reply{Top: top}},
		api.OpUpload: {upload(1, "s"), api.Reply{ID: 6, Top: top}},
		api.OpStart:  {start(1, 3), api.Reply{Top: top}},
		api.OpStop:   {stop(1, 1), api.Reply{Top: top}},
		api.OpDrop:   {drop(1, 3), api.Reply{Top: top}},
		api.OpBook:   {book(), api.Reply{Orders: sceneOrders(), Top: top}},
		api.OpStatus: {status(1), api.Reply{Stand: api.Standing{ID: 1, Client: 1, Status: api.Running, Snap: api.Snap{Bid: 8, Ask: 10, Now: 1, Open: 9}}, Top: top}},
		api.OpQuota:  {quota(1), api.Reply{Usage: api.Usage{Strats: 2, Orders: 3, Lots: 9, Acts: 3}, Top: top}},
	}
}

func TestEachOp(t *testing.T) {
	all := answers()
	for op := range api.Op(12) {
		if s, is := all[op]; is {
			expectSeen(t, staged(t), s)
		} else if op != 0 {
			t.Error(op, "is not tried")
		}
	}
}

// A reply to an Op that there is not, whatever it says.
func TestOtherOps(t *testing.T) {
	for op := range 256 {
		if op >= 1 && op <= 11 {
			continue
		}
		expectWrong(t, staged(t), step{api.Command{Op: api.Op(op), Client: 1, ID: 1}, api.Reply{Top: sceneTop()}}, badReply, 0)
	}
	for op, s := range answers() {
		for _, other := range []api.Op{0, 12, 12 + op, 255} {
			expectWrong(t, staged(t), s.turned(func(s *step) { s.c.Op = other }), badReply, 0)
		}
	}
}

// Each Op with clients that there are and are not: of OpTick, OpBook, OpStatus none is looked at.
func TestClients(t *testing.T) {
	for op, s := range answers() {
		for _, client := range append(nobody(3), 2, 3) {
			x := s.turned(func(s *step) { s.c.Client = client })
			if op == api.OpTick || op == api.OpBook || op == api.OpStatus {
				expectSeen(t, staged(t), x)
				continue
			}
			if client < 1 || client > 3 {
				expectWrong(t, staged(t), x, badReply, 0)
				continue
			}
			switch op {
			case api.OpEnter, api.OpAmend, api.OpCancel:
				expectWrong(t, staged(t), x, badTold, 0)
			case api.OpStart, api.OpStop, api.OpDrop:
				expectWrong(t, staged(t), x, badReply, 0)
			case api.OpUpload:
				expectSeen(t, staged(t), x)
			case api.OpQuota:
				expectWrong(t, staged(t), x, badDump, 0)
			}
		}
	}
}

// The first client and the last one, of one, of eight.
func TestTheLastClient(t *testing.T) {
	for _, clients := range []int{1, 8} {
		c := with(func(c *api.Config) { c.Rules.Clients = clients })
		for _, client := range []int{1, clients} {
			j := made(t, c)
			expectSeen(t, j, rests(1, client, api.Sell, 10, 5, api.Top{Ask: 10}), step{quota(client), api.Reply{Usage: api.Usage{Orders: 1, Lots: 5, Acts: 1}, Top: api.Top{Ask: 10}}})
			expectUsage(t, j, client, api.Usage{Orders: 1, Lots: 5, Acts: 1})
		}
		for _, client := range nobody(clients) {
			j := made(t, c)
			expectUsage(t, j, client, api.Usage{})
			expectWrong(t, j, step{quota(client), api.Reply{}}, badReply, 0)
			expectWrong(t, made(t, c), rests(1, client, api.Sell, 10, 5, api.Top{Ask: 10}), badReply, 0)
		}
	}
}

// expectTrueOf tries a turn of the true steps of all Ops: which of them stay true by it; all others are wrong so.
func expectTrueOf(t *testing.T, turn func(s *step), want api.Errno, stay ...api.Op) {
	t.Helper()
	stays := map[api.Op]int{}
	for _, op := range stay {
		stays[op]++
	}
	for op, s := range answers() {
		x := s.turned(turn)
		if stays[op] > 0 {
			expectSeen(t, staged(t), x)
		} else {
			expectWrong(t, staged(t), x, want, 0)
		}
	}
}

// cascading are the Ops that may set something going.
func cascading() []api.Op {
	return []api.Op{api.OpEnter, api.OpAmend, api.OpCancel, api.OpTick, api.OpStart}
}

func TestAt(t *testing.T) {
	for _, at := range []int{least, -1, 1, greatest} {
		expectTrueOf(t, func(s *step) { s.r.At = at }, badReply)
	}
}

func TestRounds(t *testing.T) {
	expectTrueOf(t, func(s *step) { s.r.Rounds = 1 }, badReply, cascading()...)
	expectTrueOf(t, func(s *step) { s.r.Rounds = 3 }, badReply, cascading()...)
	for _, n := range []int{least, -1, 4, greatest} {
		expectTrueOf(t, func(s *step) { s.r.Rounds = n }, badReply)
	}
	for _, rounds := range []int{0, 1, 16} {
		c := with(func(c *api.Config) { c.Rounds = rounds })
		expectSeen(t, made(t, c), step{tick(1), api.Reply{Rounds: rounds}})
		expectWrong(t, made(t, c), step{tick(1), api.Reply{Rounds: rounds + 1}}, badReply, 0)
	}
	// No reply has 0 to -1 rounds.
	expectWrong(t, made(t, with(func(c *api.Config) { c.Rounds = -1 })), step{tick(1), api.Reply{}}, badReply, 0)
	expectWrong(t, made(t, with(func(c *api.Config) { c.Rounds = -1 })), step{tick(1), api.Reply{Rounds: -1}}, badReply, 0)
}

func TestSteps(t *testing.T) {
	expectTrueOf(t, func(s *step) { s.r.Steps = 1 }, badReply, cascading()...)
	expectTrueOf(t, func(s *step) { s.r.Steps = greatest }, badReply, cascading()...)
	for _, n := range []int{least, -1} {
		expectTrueOf(t, func(s *step) { s.r.Steps = n }, badReply)
	}
}

// What an Op does not tell: things, orders, standings, usages, numbers.
func TestWhatIsAnotherOps(t *testing.T) {
	more := func(s *step) { s.r.Told = append(s.r.Told, refused(1)) }
	for op, s := range answers() {
		x := s.turned(more)
		switch op {
		case api.OpEnter, api.OpAmend, api.OpCancel, api.OpTick, api.OpStart:
			expectSeen(t, staged(t), x)
		default:
			expectWrong(t, staged(t), x, badReply, 0)
		}
	}
	expectTrueOf(t, func(s *step) { s.r.Orders = sceneOrders() }, badReply, api.OpBook)
	expectTrueOf(t, func(s *step) { s.r.Stand = answers()[api.OpStatus].r.Stand }, badReply, api.OpStatus)
	expectTrueOf(t, func(s *step) { s.r.Usage = answers()[api.OpQuota].r.Usage }, badReply, api.OpQuota)
	for name, r := range beside(api.Reply{Top: sceneTop()}) {
		switch name {
		case "Rounds", "Steps":
			expectSeen(t, staged(t), step{tick(2), r})
		case "Told":
			expectSeen(t, staged(t), step{tick(2), r})
			expectWrong(t, staged(t), step{drop(1, 3), r}, badReply, 0)
		case "Told of noughts":
			expectWrong(t, staged(t), step{tick(2), r}, badTold, 0)
			expectWrong(t, staged(t), step{drop(1, 3), r}, badReply, 0)
		case "Top.Bid", "Top.Ask", "Top.Last", "Top.Volume":
			expectWrong(t, staged(t), step{tick(2), r}, badTop, 0)
			expectWrong(t, staged(t), step{drop(1, 3), r}, badTop, 0)
		default:
			expectWrong(t, staged(t), step{tick(2), r}, badReply, 0)
			expectWrong(t, staged(t), step{drop(1, 3), r}, badReply, 0)
		}
	}
}

// The number of a reply is a new order's, or a new strategy's; of any other Op there is none.
func TestNumbers(t *testing.T) {
	for op, s := range answers() {
		for _, id := range []int{least, -1, 0, 1, 3, 5, 6, 7, 8, greatest} {
			if id == s.r.ID {
				continue
			}
			x := s.turned(func(s *step) { s.r.ID = id })
			switch {
			case op == api.OpEnter:
				expectWrong(t, staged(t), x, badTold, 0)
			case op == api.OpUpload && id > 5:
				expectSeen(t, staged(t), x)
			default:
				expectWrong(t, staged(t), x, badReply, 0)
			}
		}
	}
}

// A strategy's number is above those of all that ever were, also of those that are no more; and above 0.
func TestNumbersOfStrategies(t *testing.T) {
	for _, id := range []int{least, -1, 0} {
		expectWrong(t, made(t, plain()), step{upload(1, "s"), api.Reply{ID: id}}, badReply, 0)
	}
	for _, id := range []int{1, 2, 100, greatest} {
		j := made(t, plain())
		expectSeen(t, j, step{upload(1, "s"), api.Reply{ID: id}}, step{drop(1, id), api.Reply{}})
		expectWrong(t, j, step{upload(2, "s"), api.Reply{ID: id}}, badReply, 0)
	}
	j := made(t, plain())
	expectSeen(t, j, step{upload(1, "s"), api.Reply{ID: 5}}, step{upload(2, "s"), api.Reply{ID: 7}}, step{drop(2, 7), api.Reply{}}, step{upload(1, "s"), api.Reply{ID: 8}}, step{drop(1, 8), api.Reply{}})
	expectUsage(t, j, 1, api.Usage{Strats: 1})
	expectWrong(t, j, step{upload(1, "s"), api.Reply{ID: 6}}, badReply, 0)
	expectUsage(t, j, 1, api.Usage{Strats: 1})
}

// Of an entry something must be told, as must be of an amend and a cancel: they say so by other errors.
func TestNothingTold(t *testing.T) {
	none := func(s *step) { s.r.Told = nil }
	for op, s := range answers() {
		x := s.turned(none)
		switch op {
		case api.OpEnter:
			expectWrong(t, staged(t), x, badReply, 0)
		case api.OpAmend, api.OpCancel:
			expectWrong(t, staged(t), x, badTold, 0)
		default:
			expectSeen(t, staged(t), x)
		}
	}
}

// Time stays or goes on, to MaxTime.
func TestTime(t *testing.T) {
	top := sceneTop()
	for _, time := range []int64{1, 2, 10, lastTime - 1, lastTime} {
		expectSeen(t, staged(t), step{tick(time), api.Reply{Top: top}})
	}
	for _, time := range []int64{least, -1, 0, lastTime + 1, greatest} {
		expectWrong(t, staged(t), step{tick(time), api.Reply{Top: top}}, badReply, 0)
	}
	j := staged(t)
	expectSeen(t, j, step{tick(5), api.Reply{Top: top}}, step{tick(5), api.Reply{Top: top}}, step{tick(lastTime), api.Reply{Top: top}}, step{tick(lastTime), api.Reply{Top: top}})
	expectWrong(t, j, step{tick(lastTime - 1), api.Reply{Top: top}}, badReply, 0)
	// A command that is no tick has no time.
	j = staged(t)
	expectSeen(t, j, step{api.Command{Op: api.OpBook, Time: 9}, api.Reply{Orders: sceneOrders(), Top: top}}, step{tick(1), api.Reply{Top: top}})
}

// A tick that is refused or wrong is none: time goes on from where it was.
func TestATickThatIsNone(t *testing.T) {
	top := sceneTop()
	j := staged(t)
	expectSeen(t, j, step{tick(9), api.Reply{Err: api.ErrVenueTime}}, step{tick(1), api.Reply{Top: top}}, step{answers()[api.OpStatus].c, answers()[api.OpStatus].r})
	ahead := j.Usage(1)
	expectWrong(t, j, step{tick(30), api.Reply{}}, badTop, 0)
	expectUsage(t, j, 1, ahead)
}

// Whose a strategy is, and whether it runs: 1 (client 1) runs, 3 (client 1) does not, 2 is client 2's, 4 is client 3's and runs, 5 is no more.
func TestStrategies(t *testing.T) {
	top := sceneTop()
	for _, client := range []int{1, 2, 3} {
		for _, id := range []int{least, -1, 0, 1, 2, 3, 4, 5, 6, greatest} {
			owns := client == 1 && (id == 1 || id == 3) || client == 2 && id == 2 || client == 3 && id == 4
			runs := id == 1 || id == 4
			for _, x := range []struct {
				c  api.Command
				is bool
			}{{start(client, id), owns && !runs}, {stop(client, id), owns && runs}, {drop(client, id), owns && !runs}} {
				if x.is {
					expectSeen(t, staged(t), step{x.c, api.Reply{Top: top}})
				} else {
					expectWrong(t, staged(t), step{x.c, api.Reply{Top: top}}, badReply, 0)
				}
			}
		}
	}
	// A strategy that there is not is nobody's, be it client 0.
	for _, client := range nobody(3) {
		for _, id := range []int{-1, 0, 1, 3, 5, 6} {
			for _, c := range []api.Command{start(client, id), stop(client, id), drop(client, id)} {
				expectWrong(t, staged(t), step{c, api.Reply{Top: top}}, badReply, 0)
			}
		}
	}
	for _, id := range []int{least, -1, 0, 5, 6, greatest} {
		expectWrong(t, staged(t), step{status(id), api.Reply{Stand: api.Standing{ID: id}, Top: top}}, badReply, 0)
	}
}

// A strategy's life: uploaded, started, stopped, started, halted, started, faulted, dropped.
func TestALife(t *testing.T) {
	stands := func(how api.Status) step {
		return step{status(1), api.Reply{Stand: api.Standing{ID: 1, Client: 2, Status: how, Snap: api.Snap{Now: 3}}}}
	}
	j := made(t, plain())
	expectSeen(t, j, step{tick(3), api.Reply{}}, step{upload(2, "s"), api.Reply{ID: 1}}, stands(api.Stopped),
		step{start(2, 1), api.Reply{Rounds: 1}}, stands(api.Running), step{stop(2, 1), api.Reply{}}, stands(api.Stopped),
		step{start(2, 1), api.Reply{Told: told(fired(1), halted(1)), Rounds: 1}}, stands(api.Halted),
		step{start(2, 1), api.Reply{Told: told(faulted(1)), Rounds: 1}}, stands(api.Faulted))
	expectUsage(t, j, 2, api.Usage{Strats: 1})
	expectSeen(t, j, step{drop(2, 1), api.Reply{}})
	expectUsage(t, j, 2, api.Usage{})
	expectWrong(t, j, stands(api.Stopped), badReply, 0)
}
