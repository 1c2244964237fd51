package venue_test

import (
	"testing"

	"tripwire/api"
)

// Every Op that the table does not have, whatever else the command says.
func TestOtherOps(t *testing.T) {
	v := stands(t)
	for op := range 256 {
		if op >= 1 && op <= 11 {
			continue
		}
		for _, c := range []api.Command{{}, buy(1, 5, 1), start(1, 1), tick(5), upload(1, hunter), {Client: -1, ID: -1}} {
			c.Op = api.Op(op)
			expectRefused(t, v, c, noOp)
		}
	}
}

func TestTheBook(t *testing.T) {
	v := made(t, plain())
	if r := v.Do(book()); !same(r, api.Reply{}) {
		t.Error(r)
	}
	for _, c := range []api.Command{sell(1, 12, 1), sell(2, 11, 2), buy(2, 7, 3), sell(1, 11, 4), buy(1, 8, 5), buy(2, 8, 6), buy(1, 7, 7)} {
		done(t, v, c)
	}
	want := []api.Order{
		order(5, 1, api.Buy, 8, 5), order(6, 2, api.Buy, 8, 6), order(3, 2, api.Buy, 7, 3), order(7, 1, api.Buy, 7, 7),
		order(2, 2, api.Sell, 11, 2), order(4, 1, api.Sell, 11, 4), order(1, 1, api.Sell, 12, 1),
	}
	for _, client := range append(nobody(2), 1, 2) {
		c := book()
		c.Client, c.ID, c.Time, c.Source = client, -1, -1, "no"
		if r := v.Do(c); !same(r, api.Reply{Orders: want, Top: api.Top{Bid: 8, Ask: 11}}) {
			t.Error(r)
		}
	}
}

// What each client has used, told by its orders, its lots, its strategies and its actions.
func TestQuotas(t *testing.T) {
	v := made(t, with(func(c *api.Config) { c.Rules.Clients = 3 }))
	for _, c := range []api.Command{sell(1, 12, 10), sell(1, 11, 2), buy(2, 7, 3), buy(2, 11, 1), upload(2, idle()), upload(2, idle()), upload(3, idle()), drop(2, 1), cancel(2, 3)} {
		done(t, v, c)
	}
	expectUsage(t, v, 1, api.Usage{Orders: 2, Lots: 11, Acts: 2})
	expectUsage(t, v, 2, api.Usage{Strats: 1, Acts: 3})
	expectUsage(t, v, 3, api.Usage{Strats: 1})
	for _, client := range nobody(3) {
		expectRefused(t, v, quota(client), noOne)
	}
	done(t, v, tick(10))
	expectUsage(t, v, 1, api.Usage{Orders: 2, Lots: 11})
	expectUsage(t, v, 2, api.Usage{Strats: 1})
}

// What a row does not name in a command is not looked at: with all of it wrong, two venues say the same.
func TestWhatARowDoesNotName(t *testing.T) {
	clean := func(c api.Command) api.Command {
		x := api.Command{Op: c.Op}
		switch c.Op {
		case api.OpEnter:
			x.Client, x.Entry = c.Client, c.Entry
			x.Entry.Client = 0
		case api.OpAmend:
			x.Client, x.ID, x.Price, x.Qty = c.Client, c.ID, c.Price, c.Qty
		case api.OpCancel, api.OpStart, api.OpStop, api.OpDrop:
			x.Client, x.ID = c.Client, c.ID
		case api.OpTick:
			x.Time = c.Time
		case api.OpUpload:
			x.Client, x.Source = c.Client, c.Source
		case api.OpStatus:
			x.ID = c.ID
		case api.OpQuota:
			x.Client = c.Client
		}
		return x
	}
	for seed := range uint64(60) {
		d := long(seed + 200000)
		v, w := made(t, d.c), made(t, d.c)
		for range 100 {
			c := d.command(seen(v))
			if r, want := v.Do(c), w.Do(clean(c)); !same(r, want) {
				t.Fatalf("%+v is %+v; without what it does not name %+v", c, r, want)
			}
		}
	}
}

// To ask changes nothing, however often, and sets nothing going: also where a cascade was cut off.
func TestToAskChangesNothing(t *testing.T) {
	v := running(t, plain(), "strategy s { state a { when has ask do submit buy of 1q at ask ioc; } }")
	done(t, v, sell(2, 10, 50))
	ahead := seen(v)
	for range 3 {
		for _, c := range []api.Command{book(), status(1), quota(1), quota(2)} {
			r := done(t, v, c)
			if r.Rounds != 0 || r.Steps != 0 || len(r.Told) != 0 || r.ID != 0 || r.Top != ahead.Top {
				t.Error(r)
			}
		}
	}
	if !same(ahead, seen(v)) {
		t.Error(ahead, seen(v))
	}
	saying(t, v, tick(0), 0, "")
}
