package venue_test

import (
	"fmt"
	"slices"

	"tripwire/api"
)

// judge sees commands and replies alone, and says what cannot be of a market by price and time within its quotas (T5).
type judge struct {
	c      api.Config
	rest   []api.Order // as they came
	under  *api.Order  // the entry under way: Qty is what is left of it
	ids    int
	last   int64
	volume int64
	now    int64
	taken  map[int]int   // actions of a client in the window at hand
	owner  map[int]int   // of a strategy
	ledger map[int]int64 // of an order: what was entered of it, less what became of that
}

func newJudge(c api.Config) *judge {
	return &judge{c: c, taken: map[int]int{}, owner: map[int]int{}, ledger: map[int]int64{}}
}

// sees is what is wrong with a reply; empty: nothing.
func (j *judge) sees(c api.Command, r api.Reply) string {
	if r.Err != api.OK {
		return ""
	}
	switch c.Op {
	case api.OpTick:
		if c.Time/j.c.Window != j.now/j.c.Window {
			clear(j.taken)
		}
		j.now = c.Time
	case api.OpUpload:
		j.owner[r.ID] = c.Client
	case api.OpDrop:
		delete(j.owner, c.ID)
	}
	byHand := c.Op == api.OpEnter || c.Op == api.OpAmend || c.Op == api.OpCancel
	fired := map[int]int{} // clients, one of whose strategies has fired
	for k, x := range r.Told {
		if wrong := j.told(x, byHand && k == 0, fired); wrong != "" {
			return fmt.Sprintf("%d: %s: %s", k, toldText(x), wrong)
		}
		if wrong := j.over(); wrong != "" {
			return fmt.Sprintf("%d: %s: %s", k, toldText(x), wrong)
		}
	}
	return j.behind(r)
}

func (j *judge) told(x api.Told, first bool, fired map[int]int) string {
	if x.Tell != api.TellEvent && j.under != nil {
		return "an entry is under way"
	}
	switch x.Tell {
	case api.TellFired:
		fired[j.owner[x.Strategy]]++
	case api.TellReject:
		j.taken[j.owner[x.Strategy]]++
	case api.TellEvent:
		if w := x.Event.What; w == api.Accepted || w == api.Amended || w == api.Reduced || w == api.Withdrawn {
			j.taken[x.Event.Client]++
			if !first && fired[x.Event.Client] == 0 {
				return "nobody asked for it"
			}
		}
		return j.event(x.Event)
	}
	return ""
}

// event is what is wrong with an event; else it is done.
func (j *judge) event(x api.Event) string {
	o := api.Order{ID: x.ID, Client: x.Client, Side: x.Side, Price: x.Price, Qty: x.Qty}
	begins := x.What == api.Accepted || x.What == api.Amended || x.What == api.Reduced || x.What == api.Withdrawn
	if begins != (j.under == nil) {
		return "it cannot stand there"
	}
	at := slices.IndexFunc(j.rest, func(o api.Order) bool { return o.ID == x.ID })
	if (x.What == api.Amended || x.What == api.Reduced || x.What == api.Withdrawn) && (at < 0 || j.rest[at].Client != x.Client || j.rest[at].Side != x.Side) {
		return "there is no such order"
	}
	switch x.What {
	case api.Accepted:
		if x.ID != j.ids+1 {
			return "its number is another one"
		}
		j.ids++
		j.under = &o
		j.ledger[x.ID] += x.Qty
	case api.Amended, api.Reduced:
		if x.Was != j.rest[at].Qty || x.What == api.Reduced && (x.Price != j.rest[at].Price || x.Qty >= x.Was) {
			return "it was not so"
		}
		j.ledger[x.ID] += x.Qty - x.Was
		if x.What == api.Reduced {
			j.rest[at].Qty = x.Qty
			return ""
		}
		j.rest = slices.Delete(j.rest, at, at+1)
		j.under = &o
	case api.Withdrawn:
		if x.Qty != j.rest[at].Qty || x.Price != j.rest[at].Price {
			return "it was not so"
		}
		j.ledger[x.ID] -= x.Qty
		j.rest = slices.Delete(j.rest, at, at+1)
	default:
		return j.meets(x, o)
	}
	return ""
}

// meets is what is wrong with what happens to the entry under way.
func (j *judge) meets(x api.Event, o api.Order) string {
	u := j.under
	met := facing(j.rest, *u)
	switch {
	case x.What == api.Traded:
		if len(met) == 0 || x.ID != u.ID || x.Client != u.Client || x.Side != u.Side || x.Other != met[0].ID || x.Holder != met[0].Client || x.Holder == x.Client || x.Price != met[0].Price || x.Qty != min(met[0].Qty, u.Qty) {
			return "another order has priority, or another price or quantity"
		}
		j.last, j.volume = x.Price, j.volume+x.Qty
		j.ledger[x.ID] -= x.Qty
		j.ledger[x.Other] -= x.Qty
		j.rest = less(j.rest, x.Other, x.Qty)
		u.Qty -= x.Qty
	case x.What == api.Yielded:
		if len(met) == 0 || x.Other != u.ID || o != met[0] || x.Client != u.Client {
			return "another order has priority"
		}
		j.ledger[x.ID] -= x.Qty
		j.rest = less(j.rest, x.ID, x.Qty)
	case x.What == api.Rested && o == *u && len(met) == 0 && u.Price > 0:
		j.rest = append(j.rest, o)
		u.Qty = 0
	case x.What == api.Dropped && o == *u && len(met) == 0:
		j.ledger[x.ID] -= x.Qty
		u.Qty = 0
	default:
		return "it cannot end so"
	}
	if u.Qty == 0 {
		j.under = nil
	}
	return ""
}

// over says who is over quota, or what is above the market's bounds.
func (j *judge) over() string {
	strats, orders := map[int]int{}, map[int]int{}
	for _, client := range j.owner {
		strats[client]++
	}
	prices := map[[2]int64]int{}
	sides := map[api.Side]int{}
	for _, o := range j.rest {
		orders[o.Client]++
		if at := [2]int64{int64(o.Side), o.Price}; prices[at] == 0 {
			prices[at]++
			sides[o.Side]++
		}
	}
	for client := 1; client <= j.c.Rules.Clients; client++ {
		if strats[client] > j.c.Strats || orders[client] > j.c.Open || j.taken[client] > j.c.Acts {
			return fmt.Sprintf("client %d is over quota", client)
		}
	}
	if len(j.rest) > j.c.Orders || sides[api.Buy] > j.c.Levels || sides[api.Sell] > j.c.Levels || j.volume > j.c.Volume || j.ids > j.c.IDs {
		return "the market is over its bounds"
	}
	return ""
}

// behind is what is wrong behind a reply: an entry that has not ended, prices that meet, lots that were lost, another top or book.
func (j *judge) behind(r api.Reply) string {
	top := api.Top{Bid: best(j.rest, api.Buy), Ask: best(j.rest, api.Sell), Last: j.last, Volume: j.volume}
	switch {
	case j.under != nil:
		return "an entry is under way"
	case top.Bid > 0 && top.Ask > 0 && top.Bid >= top.Ask:
		return "the best prices meet"
	case top != r.Top:
		return fmt.Sprintf("the top is %+v; want %+v", r.Top, top)
	case r.Orders != nil && !slices.Equal(r.Orders, append(side(j.rest, api.Buy), side(j.rest, api.Sell)...)):
		return fmt.Sprintf("the book is %+v; want %+v", r.Orders, j.rest)
	}
	open := map[int]int64{}
	for _, o := range j.rest {
		open[o.ID] = o.Qty
	}
	for id := 1; id <= j.ids; id++ {
		if j.ledger[id] != open[id] {
			return fmt.Sprintf("of the order %d %d are neither traded nor taken away; %d are open", id, j.ledger[id], open[id])
		}
	}
	return ""
}
