package venue

import (
	"tripwire/api"
	"tripwire/snap"
)

// move is an action as a client's, by hand or by a strategy; order is which one it amends or cancels.
type move struct {
	api.Action
	client int
	order  int
}

// do does a move in the engine, and what happened there is news. The number is a new order's.
func (v *Venue) do(m move) (int, []api.Event, api.Errno) {
	before := v.market.Top()
	id, l, no := v.call(m)
	after := v.market.Top()
	v.feed(func(client int) []api.Feed { return snap.Feeds(before, after, client, l...) })
	return id, l, no
}

// call asks the engine for a move.
func (v *Venue) call(m move) (int, []api.Event, api.Errno) {
	switch m.Act {
	case api.ActAmend:
		l, no := v.market.Amend(m.client, m.order, m.Price, m.Qty)
		return 0, l, no
	case api.ActCancel:
		l, no := v.market.Cancel(m.client, m.order)
		return 0, l, no
	}
	if rests := m.Kind == api.Limit || m.Kind == api.Post; rests && v.isFull(m.client) {
		return 0, nil, api.ErrQuotaOpen
	}
	return v.market.Enter(api.Entry{Client: m.client, Kind: m.Kind, Side: m.Side, Price: m.Price, Qty: m.Qty})
}

// isFull tells whether a client has as many orders open as it may have.
func (v *Venue) isFull(client int) bool {
	orders, _ := v.market.Open(client)
	return orders >= v.config.Open
}

// feed puts feeds, which hang on whose a strategy is, behind what is still to be fed to each that runs.
func (v *Venue) feed(to func(client int) []api.Feed) {
	for _, s := range v.strategies {
		if s.runs() {
			s.hear(to(s.client))
		}
	}
}

// view is what a client sees.
func (v *Venue) view(client int) api.Snap {
	top := v.market.Top()
	_, lots := v.market.Open(client)
	return api.Snap{Bid: top.Bid, Ask: top.Ask, Last: top.Last, Volume: top.Volume, Now: v.now, Open: lots}
}

// cascade is a reply with what it sets going among the strategies.
func (v *Venue) cascade(r api.Reply) api.Reply {
	all := v.waiting()
	for ; len(all) > 0 && r.Rounds < v.config.Rounds; all = v.waiting() {
		r.Rounds++
		v.round(all, &r)
	}
	if len(all) == 0 {
		return r
	}
	for _, s := range all {
		s.Fold(s.heard()...)
	}
	r.Told = append(r.Told, api.Told{Tell: api.TellCutoff})
	return r
}

// waiting are the strategies that have news, by rising numbers. (One that runs no more has none: it hears nothing.)
func (v *Venue) waiting() []*strategy {
	var all []*strategy
	for _, id := range v.Strategies() {
		if s := v.strategies[id]; s.news {
			all = append(all, s)
		}
	}
	return all
}

// round evaluates these strategies, and then does what they let out.
func (v *Venue) round(all []*strategy, r *api.Reply) {
	actions := make([][]api.Action, len(all))
	for i, s := range all {
		f := s.Turn(s.heard(), v.grant(s.client))
		actions[i] = f.Actions
		r.Steps += f.Steps
		r.Told = append(r.Told, s.tell(f)...)
	}
	for i, s := range all {
		for which, a := range actions[i] {
			r.Told = append(r.Told, v.letOut(s, which, a)...)
		}
	}
}

// grant takes a firing's actions of a client's quota, if there are so many left.
func (v *Venue) grant(client int) func(n int) bool {
	return func(n int) bool { return v.meter.Acts(client, n) == api.OK }
}

// letOut does one action of a strategy's firing.
func (v *Venue) letOut(s *strategy, which int, a api.Action) []api.Told {
	id, l, no := v.do(move{a, s.client, s.slots[a.Slot]})
	if no != api.OK {
		return []api.Told{{Tell: api.TellReject, Strategy: s.id, Action: which, Code: no}}
	}
	if a.Act == api.ActSubmit && a.Slot != 0 {
		s.slots[a.Slot] = id
	}
	return events(l)
}

// events are what the engine did, as it is told.
func events(l []api.Event) []api.Told {
	var all []api.Told
	for _, x := range l {
		all = append(all, api.Told{Tell: api.TellEvent, Event: x})
	}
	return all
}
