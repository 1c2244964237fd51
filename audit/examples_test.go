package audit_test

import (
	"testing"

	"tripwire/api"
)

// small is the config of the chapter's examples.
func small() api.Config {
	return api.Config{Rules: api.Rules{Clients: 2}, Acts: 2, Window: 10, Open: 4, Orders: 4, Levels: 2, Volume: 100, IDs: 9, Rounds: 3, Strats: 1}
}

// e is the entry of the chapter's examples, with a number.
func e(id int) step { return rests(id, 1, api.Sell, 10, 5, api.Top{Ask: 10}) }

// meets is the second entry of the chapter's examples.
func meets() step {
	return step{buy(2, 12, 3), api.Reply{
		ID:   2,
		Told: told(accepted(2, 2, api.Buy, 12, 3), traded(2, 1, 2, 1, api.Buy, 10, 3)),
		Top:  api.Top{Ask: 10, Last: 10, Volume: 3},
	}}
}

func TestExamples(t *testing.T) {
	j := made(t, small())
	expectSeen(t, j, e(1))
	expectOrders(t, j, order(1, 1, api.Sell, 10, 5))
	expectTop(t, j, api.Top{Ask: 10})
	expectUsage(t, j, 1, api.Usage{Orders: 1, Lots: 5, Acts: 1})

	for _, x := range []struct {
		turn func(s *step)
		e    api.Errno
		at   int
	}{
		{func(s *step) { s.r.Top = api.Top{} }, badTop, 0},
		{func(s *step) { s.r.Told = s.r.Told[:1] }, badEvent, 1},
		{func(s *step) { s.r.Told[1].Event.Qty = 4 }, badEvent, 1},
		{func(s *step) { s.r.ID = 2 }, badTold, 0},
	} {
		j := made(t, small())
		expectWrong(t, j, e(1).turned(x.turn), x.e, x.at)
		expectOrders(t, j)
		expectTop(t, j, api.Top{})
		expectUsage(t, j, 1, api.Usage{})
	}

	expectSeen(t, j, meets())
	expectOrders(t, j, order(1, 1, api.Sell, 10, 2))
	expectTop(t, j, api.Top{Ask: 10, Last: 10, Volume: 3})
	expectUsage(t, j, 1, api.Usage{Orders: 1, Lots: 2, Acts: 1})
	expectUsage(t, j, 2, api.Usage{Acts: 1})

	for _, turn := range []func(s *step){
		func(s *step) { s.r.Told[1].Event.Price = 12 },
		func(s *step) { s.r.Told[1].Event.Qty = 2 },
	} {
		j := made(t, small())
		expectSeen(t, j, e(1))
		expectWrong(t, j, meets().turned(turn), badEvent, 1)
		expectOrders(t, j, order(1, 1, api.Sell, 10, 5))
	}

	expectWrong(t, made(t, small()), step{e(1).c, api.Reply{Err: 220, Top: api.Top{Ask: 10}}}, badReply, 0)

	j = made(t, small())
	expectSeen(t, j, e(1), e(2))
	expectWrong(t, j, e(3), badQuota, 0)
	expectOrders(t, j, order(1, 1, api.Sell, 10, 5), order(2, 1, api.Sell, 10, 5))
	expectUsage(t, j, 1, api.Usage{Orders: 2, Lots: 10, Acts: 2})

	expectWrong(t, made(t, small()), step{tick(5), api.Reply{Told: told(fired(1)), Rounds: 1}}, badTold, 0)
}

// The numbers of the errors are the chapter's.
func TestErrors(t *testing.T) {
	for want, is := range map[int]api.Errno{1: api.ErrArg, 240: badReply, 241: badEvent, 242: badTold, 243: badQuota, 244: badTop, 245: badDump} {
		if int(is) != want {
			t.Error(is, want)
		}
	}
}
