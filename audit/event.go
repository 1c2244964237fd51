package audit

import "tripwire/api"

// needs are what events need, by their Whats: each gives the reply up, or does what the event says.
type needs [api.Reduced + 1]func(e api.Event)

func (l *look) events() needs {
	return needs{
		api.Accepted:  l.accepted,
		api.Traded:    l.traded,
		api.Withdrawn: l.withdrawn,
		api.Yielded:   l.yielded,
		api.Dropped:   l.dropped,
		api.Rested:    l.rested,
		api.Amended:   l.amended,
		api.Reduced:   l.reduced,
	}
}

// event looks at one event; asked: the command itself asked for it.
func (l *look) event(e api.Event, asked bool) {
	l.can(int(e.What) < len(l.needs) && l.needs[e.What] != nil)
	l.needs[e.What](e)
	if isAction(e.What) {
		l.need(asked || l.hasFired(e.Client), api.ErrAuditTold)
		l.act(e.Client)
	}
	l.need(l.isWithin(e), api.ErrAuditQuota)
}

// can gives the reply up for an event that cannot be.
func (l *look) can(is bool) { l.need(is, api.ErrAuditEvent) }

func isAction(w api.What) bool {
	return w == api.Accepted || w == api.Amended || w == api.Reduced || w == api.Withdrawn
}

// isWithin tells whether an event is within the quotas, of which each is asked of the one What alone that makes more of what it bounds: a quota below 0 is passed from the beginning on, and an event by which nothing of its kind came about must not be blamed for that.
func (l *look) isWithin(e api.Event) bool {
	c := l.config
	switch e.What {
	case api.Accepted:
		return l.given <= c.IDs
	case api.Traded:
		return l.volume <= c.Volume
	case api.Rested:
		orders, _ := l.open(e.Client)
		all := len(l.rows[api.Buy]) + len(l.rows[api.Sell])
		return orders <= c.Open && all <= c.Orders && l.prices(e.Side) <= c.Levels
	}
	return true
}

// isIdle tells whether no entry is under way.
func (l *look) isIdle() bool { return l.under.Qty == 0 }

// first is the order that the entry under way meets first; false: it meets none.
func (l *look) first() (api.Order, bool) {
	row := l.rows[facing(l.under.Side)]
	if len(row) == 0 {
		return api.Order{}, false
	}
	// Above its own price who buys does not go, nor who sells below it: such a price would come first on its own side.
	tooFar := l.under.Price != 0 && isBetter(l.under.Side, row[0].Price, l.under.Price)
	return row[0], !tooFar
}

// facing is the other side.
func facing(side api.Side) api.Side { return api.Buy + api.Sell - side }

// eventOf is an event that tells of an order, or an entry, and of nothing beside.
func eventOf(w api.What, o api.Order) api.Event {
	return api.Event{What: w, ID: o.ID, Client: o.Client, Side: o.Side, Price: o.Price, Qty: o.Qty}
}

// orderOf is the order, or the entry, of which an event tells.
func orderOf(e api.Event) api.Order {
	return api.Order{ID: e.ID, Client: e.Client, Side: e.Side, Price: e.Price, Qty: e.Qty}
}

func (l *look) accepted(e api.Event) {
	l.can(l.isIdle() && e == eventOf(api.Accepted, orderOf(e)) && e.ID == l.given+1 && l.has(e.Client))
	l.can(e.Side == api.Buy || e.Side == api.Sell)
	l.can(isFrom(e.Price, 0, api.MaxPrice) && isFrom(e.Qty, 1, api.MaxQty))
	l.given = e.ID
	l.under = orderOf(e)
}

func (l *look) traded(e api.Event) {
	l.can(!l.isIdle())
	o, meets := l.first()
	want := eventOf(api.Traded, l.under)
	want.Other, want.Holder, want.Price, want.Qty = o.ID, o.Client, o.Price, min(o.Qty, l.under.Qty)
	l.can(meets && e == want && o.Client != l.under.Client)
	l.lessen(o.Side, 0, e.Qty)
	l.under.Qty -= e.Qty
	l.last = e.Price
	l.volume += e.Qty
}

func (l *look) yielded(e api.Event) {
	l.can(!l.isIdle())
	o, meets := l.first()
	want := eventOf(api.Yielded, o)
	want.Other = l.under.ID
	l.can(meets && e == want && o.Client == l.under.Client)
	l.lessen(o.Side, 0, o.Qty)
}

func (l *look) rested(e api.Event) {
	l.can(e.Price != 0)
	l.rest(l.ended(e))
}

func (l *look) dropped(e api.Event) { l.ended(e) }

// ended is the entry that was under way, with what is left of it.
func (l *look) ended(e api.Event) api.Order {
	l.can(!l.isIdle())
	_, meets := l.first()
	o := l.under
	l.can(!meets && e == eventOf(e.What, o))
	l.under = api.Order{}
	return o
}

func (l *look) amended(e api.Event) {
	at, o := l.resting(e)
	want := eventOf(api.Amended, o)
	want.Price, want.Qty, want.Was = e.Price, e.Qty, o.Qty
	l.can(e == want && isFrom(e.Price, 1, api.MaxPrice) && isFrom(e.Qty, 1, api.MaxQty))
	l.lessen(o.Side, at, o.Qty)
	l.under = orderOf(e)
}

func (l *look) reduced(e api.Event) {
	at, o := l.resting(e)
	want := eventOf(api.Reduced, o)
	want.Qty, want.Was = e.Qty, o.Qty
	l.can(e == want && isFrom(e.Qty, 1, o.Qty-1))
	l.lessen(o.Side, at, o.Qty-e.Qty)
}

func (l *look) withdrawn(e api.Event) {
	at, o := l.resting(e)
	l.can(e == eventOf(api.Withdrawn, o))
	l.lessen(o.Side, at, o.Qty)
}

// resting is the order whose number an event has, where nothing is under way, and how many are ahead of it on its side.
func (l *look) resting(e api.Event) (int, api.Order) {
	side, at, is := l.find(e.ID)
	l.can(l.isIdle() && is)
	return at, l.rows[side][at]
}
