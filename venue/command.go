package venue

import "tripwire/api"

// deed is what a command of an Op does.
func deed(op api.Op) func(v *Venue, c api.Command) api.Reply {
	deeds := [...]func(v *Venue, c api.Command) api.Reply{
		api.OpEnter:  (*Venue).enter,
		api.OpAmend:  (*Venue).amend,
		api.OpCancel: (*Venue).cancel,
		api.OpTick:   (*Venue).tick,
		api.OpUpload: (*Venue).upload,
		api.OpStart:  (*Venue).start,
		api.OpStop:   (*Venue).stop,
		api.OpDrop:   (*Venue).drop,
		api.OpBook:   (*Venue).book,
		api.OpStatus: (*Venue).status,
		api.OpQuota:  (*Venue).usage,
	}
	if op < api.OpEnter || int(op) >= len(deeds) {
		return (*Venue).unknown
	}
	return deeds[op]
}

func refused(why api.Errno) api.Reply { return api.Reply{Err: why} }

func (v *Venue) unknown(api.Command) api.Reply { return refused(api.ErrVenueOp) }

func (v *Venue) enter(c api.Command) api.Reply {
	e := c.Entry
	return v.byHand(move{api.Action{Act: api.ActSubmit, Kind: e.Kind, Side: e.Side, Price: e.Price, Qty: e.Qty}, c.Client, 0})
}

func (v *Venue) amend(c api.Command) api.Reply {
	return v.byHand(move{api.Action{Act: api.ActAmend, Price: c.Price, Qty: c.Qty}, c.Client, c.ID})
}

func (v *Venue) cancel(c api.Command) api.Reply {
	return v.byHand(move{api.Action{Act: api.ActCancel}, c.Client, c.ID})
}

// byHand does what a client itself asks of the market.
func (v *Venue) byHand(m move) api.Reply {
	if !v.has(m.client) {
		return refused(api.ErrVenueClient)
	}
	// The action is taken only behind what the engine may refuse, and so is asked for here alone.
	if _, acts := v.meter.Used(m.client); acts == v.config.Acts {
		return refused(api.ErrQuotaActs)
	}
	id, l, no := v.do(m)
	if no != api.OK {
		return refused(no)
	}
	v.meter.Acts(m.client, 1)
	return v.cascade(api.Reply{ID: id, Told: events(l)})
}

func (v *Venue) tick(c api.Command) api.Reply {
	// The meter's time is the venue's, and it refuses just those times that the venue does.
	if v.meter.Tick(c.Time) != api.OK {
		return refused(api.ErrVenueTime)
	}
	if c.Time != v.now {
		v.now = c.Time
		v.feed(func(int) []api.Feed { return []api.Feed{{Kind: api.FeedTime, A: c.Time}} })
	}
	return v.cascade(api.Reply{})
}

func (v *Venue) upload(c api.Command) api.Reply {
	id, err := v.Upload(c.Client, c.Source)
	if err != nil {
		return api.Reply{Err: errnoIn(err), At: placeIn(err)}
	}
	return api.Reply{ID: id}
}

func (v *Venue) start(c api.Command) api.Reply {
	s, no := v.owned(c)
	if no != api.OK {
		return refused(no)
	}
	if s.runs() {
		return refused(api.ErrVenueRuns)
	}
	s.begin(v.view(s.client))
	return v.cascade(api.Reply{})
}

func (v *Venue) stop(c api.Command) api.Reply {
	s, no := v.owned(c)
	if no != api.OK {
		return refused(no)
	}
	if !s.runs() {
		return refused(api.ErrVenueStopped)
	}
	s.Stop()
	return api.Reply{}
}

func (v *Venue) drop(c api.Command) api.Reply {
	s, no := v.owned(c)
	if no != api.OK {
		return refused(no)
	}
	if s.runs() {
		return refused(api.ErrVenueRuns)
	}
	delete(v.strategies, s.id)
	v.meter.Drop(s.client)
	return api.Reply{}
}

func (v *Venue) book(api.Command) api.Reply { return api.Reply{Orders: v.market.Orders()} }

func (v *Venue) status(c api.Command) api.Reply {
	stand, is := v.Stand(c.ID)
	if !is {
		return refused(api.ErrVenueStrategy)
	}
	return api.Reply{Stand: stand}
}

func (v *Venue) usage(c api.Command) api.Reply {
	if !v.has(c.Client) {
		return refused(api.ErrVenueClient)
	}
	strats, acts := v.meter.Used(c.Client)
	orders, lots := v.market.Open(c.Client)
	return api.Reply{Usage: api.Usage{Strats: strats, Orders: orders, Lots: lots, Acts: acts}}
}

// owned is the strategy that a command names, if it is its client's.
func (v *Venue) owned(c api.Command) (*strategy, api.Errno) {
	s := v.strategies[c.ID]
	switch {
	case !v.has(c.Client):
		return nil, api.ErrVenueClient
	case s == nil:
		return nil, api.ErrVenueStrategy
	case s.client != c.Client:
		return nil, api.ErrVenueOwner
	}
	return s, api.OK
}
