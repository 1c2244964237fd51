package audit_test

import (
	"reflect"
	"slices"
	"sort"

	"tripwire/api"
)

// model is a judge by the chapter's words alone: all orders in one list, as they came to their prices; all actions that ever were; what is wrong is answered, step by step, and a whole model is taken over only where nothing is.
type model struct {
	c       api.Config
	rest    []api.Order
	numbers int
	last    int64
	volume  int64
	now     int64
	taken   []taken
	plans   []plan
	wrong   api.Errno
	place   int

	// Of the reply that is looked at.
	under []api.Order // none or one
	fired []plan
}

// taken is an action, and when it was.
type taken struct {
	client int
	window int64
}

// plan is a strategy.
type plan struct {
	id, client int
	runs, gone bool
}

func (m *model) sees(c api.Command, r api.Reply) (api.Errno, int) {
	if m.wrong != ok {
		return m.wrong, m.place
	}
	next := m.copied()
	if m.wrong, m.place = next.reply(c, r); m.wrong == ok {
		*m = next
	}
	return m.wrong, m.place
}

// copied is the same in memory of its own, ahead of a reply.
func (m *model) copied() model {
	next := *m
	next.rest, next.taken, next.plans = slices.Clone(m.rest), slices.Clone(m.taken), slices.Clone(m.plans)
	next.under, next.fired = nil, nil
	return next
}

func (m *model) reply(c api.Command, r api.Reply) (api.Errno, int) {
	if r.Err != ok {
		bare := api.Reply{Err: r.Err}
		if c.Op == api.OpUpload {
			bare.At = r.At
		}
		if !same(r, bare) {
			return badReply, 0
		}
		return ok, 0
	}
	if !m.fits(c, r) {
		return badReply, 0
	}
	if e := m.does(c, r); e != ok {
		return e, 0
	}
	if len(r.Told) == 0 && (c.Op == api.OpAmend || c.Op == api.OpCancel) {
		return badTold, 0
	}
	for at, x := range r.Told {
		if e := m.thing(c, r, at, x); e != ok {
			return e, at
		}
	}
	if len(m.under) > 0 {
		return badEvent, len(r.Told)
	}
	return m.dumps(c, r), 0
}

// plan is a strategy that there is.
func (m *model) plan(id int) (plan, bool) {
	for _, p := range m.plans {
		if p.id == id && !p.gone {
			return p, true
		}
	}
	return plan{}, false
}

func (m *model) put(p plan) {
	for k := range m.plans {
		if m.plans[k].id == p.id {
			m.plans[k] = p
		}
	}
}

func (m *model) isClient(n int) bool {
	return slices.Contains([]int{1, 2, 3, 4, 5, 6, 7, 8}[:m.c.Rules.Clients], n)
}

// fits is the second thing that is asked.
func (m *model) fits(c api.Command, r api.Reply) bool {
	p, is := m.plan(c.ID)
	own := is && p.client == c.Client
	all := []bool{
		c.Op > 0, c.Op < 12, r.At == 0, r.Rounds >= 0, r.Rounds <= m.c.Rounds, r.Steps >= 0,
		c.Op == api.OpBook || len(r.Orders) == 0, c.Op == api.OpStatus || same(r.Stand, api.Standing{}), c.Op == api.OpQuota || r.Usage == api.Usage{},
		c.Op == api.OpTick || c.Op == api.OpBook || c.Op == api.OpStatus || m.isClient(c.Client),
		c.Op == api.OpEnter || c.Op == api.OpUpload || r.ID == 0,
	}
	switch c.Op {
	case api.OpUpload, api.OpStop, api.OpDrop, api.OpBook, api.OpStatus, api.OpQuota:
		all = append(all, len(r.Told) == 0, r.Rounds == 0, r.Steps == 0)
	}
	switch c.Op {
	case api.OpEnter:
		all = append(all, len(r.Told) != 0)
	case api.OpTick:
		all = append(all, c.Time >= m.now, c.Time <= lastTime)
	case api.OpUpload:
		all = append(all, r.ID > 0)
		for _, p := range m.plans {
			all = append(all, r.ID > p.id)
		}
	case api.OpStart, api.OpDrop:
		all = append(all, own && !p.runs)
	case api.OpStop:
		all = append(all, own && p.runs)
	case api.OpStatus:
		all = append(all, is)
	}
	return !slices.Contains(all, false)
}

// does is the third one.
func (m *model) does(c api.Command, r api.Reply) api.Errno {
	p, _ := m.plan(c.ID)
	switch c.Op {
	case api.OpTick:
		m.now = c.Time
	case api.OpUpload:
		m.plans = append(m.plans, plan{id: r.ID, client: c.Client})
		if m.usage(c.Client).Strats > m.c.Strats {
			return badQuota
		}
	case api.OpStart:
		p.runs = true
		m.put(p)
	case api.OpStop:
		p.runs = false
		m.put(p)
	case api.OpDrop:
		p.gone = true
		m.put(p)
	}
	return ok
}

// thing is the fourth one, of one thing.
func (m *model) thing(c api.Command, r api.Reply, at int, x api.Told) api.Errno {
	first := at == 0 && (c.Op == api.OpEnter || c.Op == api.OpAmend || c.Op == api.OpCancel)
	if first && !m.isWhatWasAskedFor(c, r, x) {
		return badTold
	}
	if x.Tell == api.TellEvent {
		return m.event(x, first)
	}
	p, is := m.plan(x.Strategy)
	bare := x
	bare.Tell, bare.Strategy = 0, 0
	switch x.Tell {
	case api.TellFired, api.TellRefused:
		bare.Rule = 0
		is = is && x.Rule >= 0 && p.runs
	case api.TellReject:
		bare.Action, bare.Code = 0, 0
		is = is && x.Action >= 0 && x.Code != 0 && slices.ContainsFunc(m.fired, func(p plan) bool { return p.id == x.Strategy })
	case api.TellHalted:
		is = is && p.runs
	case api.TellFaulted:
		bare.Code = 0
		is = is && x.Code != 0 && p.runs
	case api.TellCutoff:
		is = x.Strategy == 0 && at+1 == len(r.Told) && r.Rounds == m.c.Rounds
	default:
		is = false
	}
	if !is || bare != (api.Told{}) || len(m.under) > 0 {
		return badTold
	}
	switch x.Tell {
	case api.TellFired:
		m.fired = append(m.fired, p)
	case api.TellHalted, api.TellFaulted:
		p.runs = false
		m.put(p)
	case api.TellReject:
		return m.take(p.client)
	}
	return ok
}

func (m *model) isWhatWasAskedFor(c api.Command, r api.Reply, x api.Told) bool {
	want := x
	want.Tell, want.Event.Client, want.Event.ID = api.TellEvent, c.Client, c.ID
	switch c.Op {
	case api.OpEnter:
		want.Event.What, want.Event.ID, want.Event.Side, want.Event.Price, want.Event.Qty = api.Accepted, r.ID, c.Entry.Side, c.Entry.Price, c.Entry.Qty
	case api.OpAmend:
		want.Event.Price, want.Event.Qty = c.Price, c.Qty
		if x.Event.What != api.Reduced {
			want.Event.What = api.Amended
		}
	case api.OpCancel:
		want.Event.What = api.Withdrawn
	}
	return x == want
}

// take is an action more of a client.
func (m *model) take(client int) api.Errno {
	m.taken = append(m.taken, taken{client, m.now / m.c.Window})
	if m.usage(client).Acts > m.c.Acts {
		return badQuota
	}
	return ok
}

func (m *model) event(x api.Told, first bool) api.Errno {
	e := x.Event
	if x.Strategy != 0 || x.Rule != 0 || x.Action != 0 || x.Code != 0 {
		return badTold
	}
	if !namesItsOwn(e) || !m.canBe(e) {
		return badEvent
	}
	ahead := m.bounded(e.Client)
	m.done(e)
	if slices.Contains([]api.What{api.Accepted, api.Amended, api.Reduced, api.Withdrawn}, e.What) {
		if !first && !slices.ContainsFunc(m.fired, func(p plan) bool { return p.client == e.Client }) {
			return badTold
		}
		if no := m.take(e.Client); no != ok {
			return no
		}
	}
	for name, n := range m.bounded(e.Client) {
		if was := ahead[name]; n.is > was.is && n.is > n.most {
			return badQuota
		}
	}
	return ok
}

// bound is how much there is of something, and how much may be.
type bound struct{ is, most int64 }

// bounded is all that quotas bound, but for actions: an event that makes none of it more is not the one by which it is too much.
func (m *model) bounded(client int) map[string]bound {
	prices := map[api.Side]map[int64]int{api.Buy: {}, api.Sell: {}}
	for _, o := range m.rest {
		prices[o.Side][o.Price]++
	}
	return map[string]bound{
		"numbers":     {int64(m.numbers), int64(m.c.IDs)},
		"volume":      {m.volume, m.c.Volume},
		"open":        {int64(m.usage(client).Orders), int64(m.c.Open)},
		"orders":      {int64(len(m.rest)), int64(m.c.Orders)},
		"buy prices":  {int64(len(prices[api.Buy])), int64(m.c.Levels)},
		"sell prices": {int64(len(prices[api.Sell])), int64(m.c.Levels)},
	}
}

// namesItsOwn tells whether all fields are noughts that the chapter's table does not name for an event.
func namesItsOwn(e api.Event) bool {
	named := []string{"What", "ID", "Client", "Side", "Price", "Qty"}
	switch e.What {
	case api.Traded:
		named = append(named, "Other", "Holder")
	case api.Yielded:
		named = append(named, "Other")
	case api.Amended, api.Reduced:
		named = append(named, "Was")
	}
	v := reflect.ValueOf(e)
	for k := range v.NumField() {
		if !v.Field(k).IsZero() && !slices.Contains(named, v.Type().Field(k).Name) {
			return false
		}
	}
	return true
}

// met are the orders that the entry under way meets, the best one first.
func (m *model) met() []api.Order {
	u := m.under[0]
	var l []api.Order
	for _, o := range m.rest {
		if o.Side != u.Side && (u.Price == 0 || u.Side == api.Buy && o.Price <= u.Price || u.Side == api.Sell && o.Price >= u.Price) {
			l = append(l, o)
		}
	}
	byPriority(l)
	return l
}

// byPriority sorts orders of one side that stand as they came.
func byPriority(l []api.Order) {
	sort.SliceStable(l, func(a, b int) bool {
		if l[a].Side == api.Buy {
			return l[b].Price < l[a].Price
		}
		return l[a].Price < l[b].Price
	})
}

// canBe is the chapter's second column.
func (m *model) canBe(e api.Event) bool {
	at := slices.IndexFunc(m.rest, func(o api.Order) bool { return o.ID == e.ID })
	switch e.What {
	case api.Accepted:
		return len(m.under) == 0 && e.ID-m.numbers == 1 && m.isClient(e.Client) && (e.Side == 1 || e.Side == 2) && e.Price >= 0 && e.Price <= most && e.Qty >= 1 && e.Qty <= most
	case api.Amended, api.Reduced, api.Withdrawn:
		if len(m.under) > 0 || at < 0 {
			return false
		}
		o := m.rest[at]
		if e.Client != o.Client || e.Side != o.Side {
			return false
		}
		switch e.What {
		case api.Amended:
			return e.Was == o.Qty && e.Price >= 1 && e.Price <= most && e.Qty >= 1 && e.Qty <= most
		case api.Reduced:
			return e.Price == o.Price && e.Was == o.Qty && e.Qty >= 1 && e.Qty <= e.Was-1
		}
		return e.Price == o.Price && e.Qty == o.Qty
	case api.Traded, api.Yielded, api.Rested, api.Dropped:
		if len(m.under) == 0 {
			return false
		}
		return m.goesOn(e, m.under[0], m.met())
	}
	return false
}

// goesOn tells whether an event can be of the entry under way, which meets these.
func (m *model) goesOn(e api.Event, u api.Order, met []api.Order) bool {
	switch {
	case e.What == api.Traded:
		return e.ID == u.ID && e.Client == u.Client && e.Side == u.Side && len(met) > 0 && e.Other == met[0].ID && e.Holder == met[0].Client && e.Holder != e.Client &&
			e.Price == met[0].Price && (e.Qty == met[0].Qty && e.Qty <= u.Qty || e.Qty == u.Qty && e.Qty <= met[0].Qty)
	case e.What == api.Yielded:
		return e.Other == u.ID && len(met) > 0 && e.Client == u.Client && met[0] == (api.Order{ID: e.ID, Client: e.Client, Side: e.Side, Price: e.Price, Qty: e.Qty})
	case e.What == api.Rested && e.Price == 0:
		return false
	}
	return len(met) == 0 && u == (api.Order{ID: e.ID, Client: e.Client, Side: e.Side, Price: e.Price, Qty: e.Qty})
}

// done is the chapter's third column.
func (m *model) done(e api.Event) {
	o := api.Order{ID: e.ID, Client: e.Client, Side: e.Side, Price: e.Price, Qty: e.Qty}
	open := func(id int, qty int64) {
		for k := range m.rest {
			if m.rest[k].ID == id {
				m.rest[k].Qty = qty
			}
		}
		m.rest = slices.DeleteFunc(m.rest, func(o api.Order) bool { return o.Qty == 0 })
	}
	switch e.What {
	case api.Accepted:
		m.numbers++
		m.under = []api.Order{o}
	case api.Traded:
		open(e.Other, m.met()[0].Qty-e.Qty)
		m.under[0].Qty -= e.Qty
		if m.under[0].Qty == 0 {
			m.under = nil
		}
		m.last = e.Price
		m.volume += e.Qty
	case api.Yielded, api.Withdrawn:
		open(e.ID, 0)
	case api.Rested:
		m.rest = append(m.rest, o)
		m.under = nil
	case api.Dropped:
		m.under = nil
	case api.Amended:
		open(e.ID, 0)
		m.under = []api.Order{o}
	case api.Reduced:
		open(e.ID, e.Qty)
	}
}

// dumps is the fifth thing that is asked.
func (m *model) dumps(c api.Command, r api.Reply) api.Errno {
	top := m.top()
	if r.Top != top {
		return badTop
	}
	is := true
	switch c.Op {
	case api.OpBook:
		is = slices.Equal(r.Orders, m.orders())
	case api.OpQuota:
		is = r.Usage == m.usage(c.Client)
	case api.OpStatus:
		p, _ := m.plan(c.ID)
		w := api.Snap{Bid: top.Bid, Ask: top.Ask, Last: top.Last, Volume: top.Volume, Now: m.now, Open: m.usage(p.client).Lots}
		is = r.Stand.ID == c.ID && r.Stand.Client == p.client && p.runs == (r.Stand.Status == api.Running) && (!p.runs || r.Stand.Snap == w)
	}
	if !is {
		return badDump
	}
	return ok
}

func (m *model) side(side api.Side) []api.Order {
	l := slices.DeleteFunc(slices.Clone(m.rest), func(o api.Order) bool { return o.Side != side })
	byPriority(l)
	return l
}

func (m *model) orders() []api.Order { return append(m.side(api.Buy), m.side(api.Sell)...) }

func (m *model) top() api.Top {
	top := api.Top{Last: m.last, Volume: m.volume}
	for _, o := range m.side(api.Buy) {
		top.Bid = max(top.Bid, o.Price)
	}
	for _, o := range m.side(api.Sell) {
		if top.Ask == 0 || o.Price < top.Ask {
			top.Ask = o.Price
		}
	}
	return top
}

func (m *model) usage(client int) api.Usage {
	var u api.Usage
	if !m.isClient(client) {
		return u
	}
	for _, p := range m.plans {
		if p.client == client && !p.gone {
			u.Strats++
		}
	}
	for _, o := range m.rest {
		if o.Client == client {
			u.Orders++
			u.Lots += o.Qty
		}
	}
	for _, x := range m.taken {
		if x == (taken{client, m.now / m.c.Window}) {
			u.Acts++
		}
	}
	return u
}

func (m *model) seen() dump {
	d := dump{Orders: m.orders(), Top: m.top()}
	for client := -1; client <= api.MaxClients+1; client++ {
		d.Usages = append(d.Usages, m.usage(client))
	}
	return d
}
