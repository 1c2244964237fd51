package venue_test

import (
	"testing"

	"tripwire/api"
)

func order(id, client int, side api.Side, price, qty int64) api.Order {
	return api.Order{ID: id, Client: client, Side: side, Price: price, Qty: qty}
}

// An entry, an amend, a cancel of each kind, and all that their replies have.
func TestOrdersByHand(t *testing.T) {
	v := made(t, plain())
	event := func(x api.Event) api.Told { return api.Told{Tell: api.TellEvent, Event: x} }
	for _, x := range []struct {
		c    api.Command
		want api.Reply
	}{
		{sell(1, 10, 5), api.Reply{ID: 1, Top: api.Top{Ask: 10}, Told: []api.Told{
			event(api.Event{What: api.Accepted, ID: 1, Client: 1, Side: api.Sell, Price: 10, Qty: 5}),
			event(api.Event{What: api.Rested, ID: 1, Client: 1, Side: api.Sell, Price: 10, Qty: 5})}}},
		{buy(2, 11, 7), api.Reply{ID: 2, Top: api.Top{Bid: 11, Last: 10, Volume: 5}, Told: []api.Told{
			event(api.Event{What: api.Accepted, ID: 2, Client: 2, Side: api.Buy, Price: 11, Qty: 7}),
			event(api.Event{What: api.Traded, ID: 2, Other: 1, Client: 2, Holder: 1, Side: api.Buy, Price: 10, Qty: 5}),
			event(api.Event{What: api.Rested, ID: 2, Client: 2, Side: api.Buy, Price: 11, Qty: 2})}}},
		{amend(2, 2, 11, 1), api.Reply{Top: api.Top{Bid: 11, Last: 10, Volume: 5}, Told: []api.Told{
			event(api.Event{What: api.Reduced, ID: 2, Client: 2, Side: api.Buy, Price: 11, Qty: 1, Was: 2})}}},
		{amend(2, 2, 9, 4), api.Reply{Top: api.Top{Bid: 9, Last: 10, Volume: 5}, Told: []api.Told{
			event(api.Event{What: api.Amended, ID: 2, Client: 2, Side: api.Buy, Price: 9, Qty: 4, Was: 1}),
			event(api.Event{What: api.Rested, ID: 2, Client: 2, Side: api.Buy, Price: 9, Qty: 4})}}},
		{enter(2, api.Market, api.Sell, 0, 3), api.Reply{ID: 3, Top: api.Top{Last: 10, Volume: 5}, Told: []api.Told{
			event(api.Event{What: api.Accepted, ID: 3, Client: 2, Side: api.Sell, Qty: 3}),
			event(api.Event{What: api.Yielded, ID: 2, Other: 3, Client: 2, Side: api.Buy, Price: 9, Qty: 4}),
			event(api.Event{What: api.Dropped, ID: 3, Client: 2, Side: api.Sell, Qty: 3})}}},
		{enter(1, api.Post, api.Buy, 4, 2), api.Reply{ID: 4, Top: api.Top{Bid: 4, Last: 10, Volume: 5}, Told: []api.Told{
			event(api.Event{What: api.Accepted, ID: 4, Client: 1, Side: api.Buy, Price: 4, Qty: 2}),
			event(api.Event{What: api.Rested, ID: 4, Client: 1, Side: api.Buy, Price: 4, Qty: 2})}}},
		{cancel(1, 4), api.Reply{Top: api.Top{Last: 10, Volume: 5}, Told: []api.Told{
			event(api.Event{What: api.Withdrawn, ID: 4, Client: 1, Side: api.Buy, Price: 4, Qty: 2})}}},
	} {
		if r := v.Do(x.c); !same(r, x.want) {
			t.Errorf("%+v is %+v; want %+v", x.c, r, x.want)
		}
		if v.Top() != x.want.Top {
			t.Error(v.Top())
		}
	}
	expectUsage(t, v, 1, api.Usage{Acts: 3})
	expectUsage(t, v, 2, api.Usage{Acts: 4})
}

// An Entry's own Client is not looked at.
func TestAnEntryIsItsCommandsClients(t *testing.T) {
	for _, client := range append(nobody(2), 1, 2) {
		v := made(t, plain())
		c := sell(2, 10, 5)
		c.Entry.Client = client
		done(t, v, c)
		expectOrders(t, v, order(1, 2, api.Sell, 10, 5))
	}
}

// Each of the three, with what is right in a venue that has the order 1 of client 1 and the order 2 of client 2.
func TestWhoMayAct(t *testing.T) {
	for clients := 2; clients <= 8; clients++ {
		v := made(t, with(func(c *api.Config) { c.Rules.Clients = clients }))
		done(t, v, sell(1, 10, 5))
		done(t, v, sell(clients, 10, 5))
		for _, client := range nobody(clients) {
			for _, c := range []api.Command{buy(client, 5, 1), amend(client, 1, 10, 3), cancel(client, 1), buy(client, -5, -1), amend(client, 9, -10, 3), cancel(client, 9)} {
				expectRefused(t, v, c, noOne)
			}
		}
		done(t, v, buy(1, 5, 1))
		done(t, v, buy(clients, 5, 1))
		expectRefused(t, v, amend(clients, 1, 10, 3), api.ErrEngineOwner)
		done(t, v, amend(1, 1, 10, 3))
		done(t, v, amend(clients, 2, 10, 3))
		expectRefused(t, v, cancel(1, 2), api.ErrEngineOwner)
		done(t, v, cancel(clients, 2))
		done(t, v, cancel(1, 1))
	}
}

// With no action left each of the three is refused, ahead of all that the engine would say, and of Open; with the last one it is done.
func TestTheLastAction(t *testing.T) {
	for acts := 2; acts < 5; acts++ {
		for _, last := range []api.Command{sell(1, 10, 5), amend(1, 1, 10, 3), cancel(1, 1)} {
			v := made(t, with(func(c *api.Config) { c.Acts, c.Open = acts, 8 }))
			for range acts - 1 {
				done(t, v, sell(1, 10, 5))
			}
			done(t, v, last)
			expectActs(t, v, 1, acts)
			for _, c := range []api.Command{buy(1, 5, 1), buy(1, -5, -1), enter(1, 9, 9, 0, 0), amend(1, 2, 10, 1), amend(1, 9, 0, 0), cancel(1, 2), cancel(1, 9), sell(1, 10, 5)} {
				expectRefused(t, v, c, noActs)
			}
			// Another client's actions are its own.
			done(t, v, buy(2, 5, 1))
			expectActs(t, v, 2, 1)
			done(t, v, tick(9))
			expectRefused(t, v, buy(1, 5, 1), noActs)
			done(t, v, tick(10))
			expectActs(t, v, 1, 0)
			done(t, v, buy(1, 5, 1))
			expectActs(t, v, 1, 1)
		}
	}
}

func expectActs(t *testing.T, v asked, client, want int) {
	t.Helper()
	if is := v.Do(quota(client)).Usage.Acts; is != want {
		t.Errorf("client %d has had %d actions; want %d", client, is, want)
	}
}

func TestWithoutAnyAction(t *testing.T) {
	v := made(t, with(func(c *api.Config) { c.Acts = 0 }))
	for _, c := range []api.Command{buy(1, 5, 1), amend(1, 1, 5, 1), cancel(1, 1), enter(2, 0, 0, 0, 0)} {
		expectRefused(t, v, c, noActs)
	}
	done(t, v, tick(10))
	expectRefused(t, v, buy(1, 5, 1), noActs)
}

// What the engine refuses takes no action, and is told as the engine says it.
func TestWhatTheEngineRefuses(t *testing.T) {
	c := with(func(c *api.Config) {
		c.Acts, c.Orders, c.Levels, c.Volume, c.IDs, c.Open = 5, 5, 2, 3, 6, 256
		c.Rules.Tick, c.Rules.Low, c.Rules.High, c.Rules.Lot = 2, 2, 100, 1
	})
	v := made(t, c)
	done(t, v, sell(1, 10, 5))
	done(t, v, sell(1, 12, 5))
	done(t, v, buy(2, 4, 1))
	for _, x := range []struct {
		c  api.Command
		no api.Errno
	}{
		{enter(1, 0, api.Buy, 4, 1), api.ErrRulesKind},
		{enter(1, 6, api.Buy, 4, 1), api.ErrRulesKind},
		{enter(1, api.Limit, 0, 4, 1), api.ErrRulesSide},
		{enter(1, api.Limit, 3, 4, 1), api.ErrRulesSide},
		{buy(1, 4, 0), api.ErrRulesQty},
		{buy(1, 4, 101), api.ErrRulesQty},
		{buy(1, 3, 1), api.ErrRulesPrice},
		{buy(1, 0, 1), api.ErrRulesPrice},
		{enter(1, api.Market, api.Buy, 4, 1), api.ErrRulesPrice},
		{enter(2, api.Post, api.Buy, 10, 1), api.ErrPlanCross},
		{enter(2, api.All, api.Buy, 10, 6), api.ErrPlanKill},
		{sell(2, 14, 1), api.ErrBookPrice},
		{buy(2, 10, 4), api.ErrEngineVolume},
		{amend(1, 9, 10, 1), noOrder},
		{amend(2, 1, 10, 1), api.ErrEngineOwner},
		{amend(1, 1, 10, 0), api.ErrRulesQty},
		{amend(1, 1, 11, 1), api.ErrRulesPrice},
		{amend(1, 1, 10, 5), api.ErrEngineSame},
		{cancel(1, 0), noOrder},
		{cancel(1, -1), noOrder},
		{cancel(1, greatest), noOrder},
		{cancel(1, 3), api.ErrEngineOwner},
	} {
		expectRefused(t, v, x.c, x.no)
	}
	expectActs(t, v, 1, 2)
	expectActs(t, v, 2, 1)
	done(t, v, buy(2, 6, 1))
	done(t, v, buy(2, 6, 1))
	expectRefused(t, v, buy(2, 6, 1), api.ErrBookFull)
	done(t, v, enter(2, api.Now, api.Buy, 10, 1))
	expectRefused(t, v, buy(1, 4, 1), api.ErrEngineIDs)
	expectActs(t, v, 1, 2)
	expectActs(t, v, 2, 4)
	// So the last action is still to be had.
	expectRefused(t, v, cancel(2, 1), api.ErrEngineOwner)
	done(t, v, cancel(2, 3))
	expectRefused(t, v, cancel(2, 4), noActs)
}

// With Open orders open no entry is taken that may rest, ahead of all that the engine would say; any other is, and so are amends and cancels.
func TestOpenOrders(t *testing.T) {
	for open := 1; open < 5; open++ {
		v := made(t, with(func(c *api.Config) { c.Open = open }))
		for n := range open {
			kind := []api.Kind{api.Limit, api.Post}[n%2]
			done(t, v, enter(1, kind, api.Sell, int64(10+n), 5))
		}
		for _, c := range []api.Command{sell(1, 10, 5), enter(1, api.Post, api.Sell, 10, 5), sell(1, 0, 0), enter(1, api.Post, 9, -1, -1), buy(1, 10, 5)} {
			expectRefused(t, v, c, noOpen)
		}
		expectActs(t, v, 1, open)
		expectRefused(t, v, enter(1, api.Now, api.Buy, 0, 5), api.ErrRulesPrice)
		expectRefused(t, v, enter(1, api.All, api.Buy, 10, 5), api.ErrPlanKill)
		expectRefused(t, v, enter(1, 0, api.Sell, 10, 5), api.ErrRulesKind)
		expectRefused(t, v, enter(1, 6, api.Sell, 10, 5), api.ErrRulesKind)
		done(t, v, enter(1, api.Now, api.Sell, 10, 5))
		done(t, v, enter(1, api.Market, api.Sell, 0, 5))
		done(t, v, buy(2, 5, 5))
		done(t, v, enter(1, api.All, api.Sell, 5, 5))
		done(t, v, amend(1, open, 20, 7))
		expectUsage(t, v, 1, api.Usage{Orders: open, Lots: int64(5*open + 2), Acts: open + 4})
		// One fewer: there is room for one.
		done(t, v, cancel(1, open))
		done(t, v, enter(1, api.Post, api.Sell, 30, 1))
		expectRefused(t, v, sell(1, 30, 1), noOpen)
		// A trade that takes one away leaves room, too; so does another client's own number not matter.
		done(t, v, enter(2, api.Now, api.Buy, 30, 5))
		done(t, v, sell(1, 40, 1))
		expectRefused(t, v, sell(1, 40, 1), noOpen)
		done(t, v, sell(2, 40, 1))
	}
}

func TestWithoutOpenOrders(t *testing.T) {
	v := made(t, with(func(c *api.Config) { c.Open = 0 }))
	expectRefused(t, v, sell(1, 10, 5), noOpen)
	expectRefused(t, v, enter(1, api.Post, api.Sell, 10, 5), noOpen)
	saying(t, v, enter(1, api.Now, api.Sell, 10, 5), 0, "accepted 1 10 5, dropped 1 10 5")
	expectOrders(t, v)
}

// All that an entry may be refused for, from the last to the first.
func TestTheOrderOfRefusalsOfAnEntry(t *testing.T) {
	v := made(t, with(func(c *api.Config) { c.Acts, c.Open = 2, 2 }))
	done(t, v, sell(2, 10, 5))
	expectRefused(t, v, enter(1, api.Post, api.Buy, 0, 1), api.ErrRulesPrice)
	expectRefused(t, v, enter(1, api.Post, 0, 0, 1), api.ErrRulesSide)
	expectRefused(t, v, enter(1, 0, 0, 0, 1), api.ErrRulesKind)
	done(t, v, sell(2, 10, 5))
	expectRefused(t, v, enter(2, api.Post, 0, 0, 1), noActs)
	done(t, v, tick(10))
	expectRefused(t, v, enter(2, api.Post, 0, 0, 1), noOpen)
	expectRefused(t, v, enter(2, 0, 0, 0, 1), api.ErrRulesKind)
	done(t, v, cancel(2, 1))
	done(t, v, sell(2, 10, 5))
	expectRefused(t, v, enter(2, api.Post, 0, 0, 1), noActs)
	expectRefused(t, v, enter(3, api.Post, 0, 0, 1), noOne)
}
