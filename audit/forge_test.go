package audit_test

import (
	"slices"
	"testing"

	"tripwire/api"
	"tripwire/audit"
)

// forger draws replies that no venue gave: what is told in them can be, mostly, as far as the model says.
type forger struct {
	*drawer
	m model
	c api.Command
	r api.Reply
}

// forged is a command, and a reply to it, where the model stands so.
func (d *drawer) forged(ahead *model) step {
	for {
		f := &forger{drawer: d, m: ahead.copied()}
		there := slices.DeleteFunc(slices.Clone(f.m.plans), func(p plan) bool { return p.gone })
		f.c = d.command(f.m.orders(), there, f.m.now)
		if d.below(15) == 0 {
			return step{f.c, api.Reply{Err: api.ErrVenueOp}}
		}
		if f.lay() || d.below(200) == 0 {
			return step{f.c, f.r}
		}
	}
}

// lay lays the reply; false: it will be found wrong.
func (f *forger) lay() bool {
	switch f.c.Op {
	case api.OpUpload:
		for _, p := range f.m.plans {
			f.r.ID = max(f.r.ID, p.id)
		}
		f.r.ID += 1 + f.below(2)
	case api.OpEnter:
		f.r.ID = f.m.numbers + 1
		f.r.Told = told(accepted(f.r.ID, f.c.Client, f.c.Entry.Side, f.c.Entry.Price, f.c.Entry.Qty))
	}
	if !f.m.fits(f.c, api.Reply{ID: f.r.ID, Told: f.r.Told}) || f.m.does(f.c, f.r) != ok {
		return false
	}
	switch f.c.Op {
	case api.OpEnter, api.OpAmend, api.OpCancel, api.OpTick, api.OpStart:
		if !f.tell() {
			return false
		}
	}
	f.dump()
	return true
}

// dump lays what is asked for behind the reply.
func (f *forger) dump() {
	f.r.Top = f.m.top()
	switch f.c.Op {
	case api.OpBook:
		f.r.Orders = f.m.orders()
	case api.OpQuota:
		f.r.Usage = f.m.usage(f.c.Client)
	case api.OpStatus:
		p, _ := f.m.plan(f.c.ID)
		f.r.Stand = api.Standing{ID: p.id, Client: p.client, Status: api.Status(2 * f.below(2)), Regs: []int64{7}}
		if p.runs {
			top := f.r.Top
			f.r.Stand.Status, f.r.Stand.Snap = api.Running, api.Snap{Bid: top.Bid, Ask: top.Ask, Last: top.Last, Volume: top.Volume, Now: f.m.now, Open: f.m.usage(p.client).Lots}
		}
	}
}

// tell lays what the command did, and what strategies did then.
func (f *forger) tell() bool {
	f.r.Rounds, f.r.Steps = f.below(f.m.c.Rounds+1), f.below(9)
	f.r.Told = nil
	switch f.c.Op {
	case api.OpEnter:
		if !f.told(happened(accepted(f.r.ID, f.c.Client, f.c.Entry.Side, f.c.Entry.Price, f.c.Entry.Qty))) {
			return false
		}
	case api.OpAmend, api.OpCancel:
		o := f.resting(f.c.ID)
		if e, is := f.begun(o, f.c.Op, f.c.Price, f.c.Qty); !is || !f.told(e) {
			return false
		}
	}
	if !f.ends() {
		return false
	}
	for range f.number(0, 0, 1, 2, 4, 8) {
		if !f.more() {
			return false
		}
	}
	if f.below(8) == 0 {
		f.r.Rounds = f.m.c.Rounds
		return f.told(cutoff())
	}
	return true
}

// told lays a thing; false: it is wrong.
func (f *forger) told(x api.Told) bool {
	f.r.Told = append(f.r.Told, x)
	return f.m.thing(f.c, f.r, len(f.r.Told)-1, x) == ok
}

func (f *forger) resting(id int) api.Order {
	for _, o := range f.m.rest {
		if o.ID == id {
			return o
		}
	}
	return api.Order{}
}

// begun is what an amend or a cancel of an order begins with.
func (f *forger) begun(o api.Order, op api.Op, price, qty int64) (api.Told, bool) {
	switch {
	case op == api.OpCancel:
		return happened(withdrawn(o.ID, o.Client, o.Side, o.Price, o.Qty)), true
	case price == o.Price && qty < o.Qty && f.below(4) > 0:
		return happened(reduced(o.ID, o.Client, o.Side, price, qty, o.Qty)), qty > 0
	}
	return happened(amended(o.ID, o.Client, o.Side, price, qty, o.Qty)), price > 0 && qty > 0
}

// ends lets the entry under way, if there is one, meet what it meets; what is left rests, or is dropped.
func (f *forger) ends() bool {
	for len(f.m.under) > 0 {
		u := f.m.under[0]
		var x api.Event
		switch met := f.m.met(); {
		case len(met) > 0 && met[0].Client == u.Client:
			x = yielded(met[0].ID, u.ID, u.Client, met[0].Side, met[0].Price, met[0].Qty)
		case len(met) > 0:
			x = traded(u.ID, met[0].ID, u.Client, met[0].Client, u.Side, met[0].Price, min(met[0].Qty, u.Qty))
		case u.Price == 0 || f.below(4) == 0:
			x = dropped(u.ID, u.Client, u.Side, u.Price, u.Qty)
		default:
			x = rested(u.ID, u.Client, u.Side, u.Price, u.Qty)
		}
		if !f.told(happened(x)) {
			return false
		}
	}
	return true
}

// more lets strategies do something.
func (f *forger) more() bool {
	p := f.strategy(f.m.plans)
	if len(f.m.fired) == 0 || f.below(3) == 0 {
		if !p.runs || p.gone {
			return true
		}
		return f.told([]api.Told{fired(p.id), fired(p.id), fired(p.id), refused(p.id), halted(p.id), faulted(p.id)}[f.below(6)])
	}
	p = f.m.fired[f.below(len(f.m.fired))]
	o := f.order(f.m.rest)
	switch k := f.below(6); {
	case k == 0:
		return f.told(reject(p.id))
	case k < 3 && o.Client == p.client && o.Side != 0:
		op := []api.Op{api.OpAmend, api.OpAmend, api.OpCancel}[f.below(3)]
		e, is := f.begun(o, op, f.price(), f.qty())
		return !is || f.told(e) && f.ends()
	}
	return f.told(happened(accepted(f.m.numbers+1, p.client, api.Side(1+f.below(2)), 2*int64(f.below(8)), 1+int64(f.below(8))))) && f.ends()
}

// ledger is what is open of each order, reckoned from what was told alone.
type ledger map[int]int64

func (l ledger) add(r api.Reply) {
	for _, x := range r.Told {
		switch e := x.Event; e.What {
		case api.Accepted:
			l[e.ID] += e.Qty
		case api.Traded:
			l[e.ID] -= e.Qty
			l[e.Other] -= e.Qty
		case api.Withdrawn, api.Yielded, api.Dropped:
			l[e.ID] -= e.Qty
		case api.Amended, api.Reduced:
			l[e.ID] += e.Qty - e.Was
		}
	}
}

// notBelow is a config whose quotas are 0 where they are below 0: nothing at all is not over such a quota.
func notBelow(c api.Config) api.Config {
	c.Acts, c.IDs, c.Open, c.Orders, c.Levels, c.Strats = max(c.Acts, 0), max(c.IDs, 0), max(c.Open, 0), max(c.Orders, 0), max(c.Levels, 0), max(c.Strats, 0)
	c.Volume = max(c.Volume, 0)
	return c
}

// expectHolds tells whether prices do not meet, nobody is over quota, and no lots were lost.
func expectHolds(t *testing.T, j *audit.Judge, c api.Config, lots ledger) {
	t.Helper()
	c = notBelow(c)
	if top := j.Top(); top.Bid > 0 && top.Ask > 0 && top.Bid >= top.Ask || top.Volume > c.Volume {
		t.Fatalf("the top is %+v", top)
	}
	prices := map[api.Order]int{}
	sides := map[api.Side]int{}
	open := ledger{}
	orders := j.Orders()
	for _, o := range orders {
		open[o.ID] = o.Qty
		at := api.Order{Side: o.Side, Price: o.Price}
		if prices[at]++; prices[at] == 1 {
			sides[o.Side]++
		}
	}
	if len(orders) > c.Orders || sides[buys] > c.Levels || sides[sells] > c.Levels {
		t.Fatalf("%+v is over %+v", orders, c)
	}
	for client := 1; client <= c.Rules.Clients; client++ {
		if u := j.Usage(client); u.Strats > c.Strats || u.Orders > c.Open || u.Acts > c.Acts {
			t.Fatalf("%d is over quota: %+v of %+v", client, u, c)
		}
	}
	for id, n := range lots {
		if n != open[id] {
			t.Fatalf("of %d %d are neither traded nor taken away; %d are open", id, n, open[id])
		}
	}
	if len(lots) > c.IDs {
		t.Fatalf("%d numbers were given; %d may be", len(lots), c.IDs)
	}
}

// Whatever is told, be it no venue's: as long as nothing is wrong, the best prices do not meet, and nobody is over quota; against the model.
func TestForgedReplies(t *testing.T) {
	reached := map[api.Errno]int{}
	whats := map[api.What]int{}
	tells := map[api.Tell]int{}
	for seed := range uint64(1500) {
		d := long(seed + 700000)
		if seed%3 == 0 {
			d = drawn(seed + 700000)
		}
		c := d.tighter()
		j, m, lots := made(t, c), &model{c: c}, ledger{}
		for range 60 {
			s := d.forged(m)
			if d.below(100) == 0 {
				s = d.slipped(s)
			}
			e, _ := expectAlike(t, j, m, s)
			reached[e]++
			if e != ok {
				break
			}
			lots.add(s.r)
			expectHolds(t, j, c, lots)
			for _, x := range s.r.Told {
				tells[x.Tell]++
				whats[x.Event.What]++
			}
		}
	}
	expectReached(t, reached, 20, badReply, badEvent, badTold, badQuota, badTop)
	expectReached(t, reached, 10000, ok)
	expectReached(t, whats, 100, 1, 2, 3, 4, 5, 6, 7, 8)
	expectReached(t, tells, 100, 1, 2, 3, 4, 5, 6, 7)
}
