package audit

import "tripwire/api"

// told goes through what was told, thing by thing.
func (l *look) told() {
	all := l.reply.Told
	byHand := isByHand(l.command.Op)
	l.need(len(all) > 0 || !byHand, api.ErrAuditTold)
	for at, x := range all {
		l.at = at
		l.thing(x, byHand && at == 0)
	}
	l.at = len(all)
	l.can(l.isIdle())
	l.at = 0
}

// thing looks at one thing that was told; asked: the command itself asked for it.
func (l *look) thing(x api.Told, asked bool) {
	l.need(!asked || l.isAsked(x), api.ErrAuditTold)
	l.need(isFormed(x), api.ErrAuditTold)
	switch x.Tell {
	case api.TellEvent:
		l.event(x.Event, asked)
	case api.TellCutoff:
		isLast := l.at == len(l.reply.Told)-1
		l.need(l.isIdle() && isLast && l.reply.Rounds == l.config.Rounds, api.ErrAuditTold)
	default:
		l.ofStrategy(x)
	}
}

// isAsked tells whether a thing is what the command asked for.
func (l *look) isAsked(x api.Told) bool {
	c, e := l.command, x.Event
	if x.Tell != api.TellEvent || e.Client != c.Client {
		return false
	}
	switch c.Op {
	case api.OpEnter:
		return e.What == api.Accepted && e.ID == l.reply.ID && e.Side == c.Entry.Side && e.Price == c.Entry.Price && e.Qty == c.Entry.Qty
	case api.OpAmend:
		return (e.What == api.Amended || e.What == api.Reduced) && e.ID == c.ID && e.Price == c.Price && e.Qty == c.Qty
	}
	return e.What == api.Withdrawn && e.ID == c.ID
}

// isFormed tells whether a thing has what its Tell names, as that may be, and nothing else.
func isFormed(x api.Told) bool {
	named := api.Told{Tell: x.Tell}
	switch x.Tell {
	case api.TellEvent:
		named.Event = x.Event
	case api.TellFired, api.TellRefused:
		named.Strategy, named.Rule = x.Strategy, max(x.Rule, 0)
	case api.TellReject:
		named.Strategy, named.Action, named.Code = x.Strategy, max(x.Action, 0), x.Code
		return x == named && x.Code != api.OK
	case api.TellHalted:
		named.Strategy = x.Strategy
	case api.TellFaulted:
		named.Strategy, named.Code = x.Strategy, x.Code
		return x == named && x.Code != api.OK
	case api.TellCutoff:
	default:
		return false
	}
	return x == named
}

// ofStrategy looks at a thing that is told of a strategy.
func (l *look) ofStrategy(x api.Told) {
	s, is := l.strategies[x.Strategy]
	l.need(l.isIdle() && is, api.ErrAuditTold)
	if x.Tell == api.TellReject {
		_, fired := l.fired[x.Strategy]
		l.need(fired, api.ErrAuditTold)
		l.act(s.client)
		return
	}
	l.need(s.runs, api.ErrAuditTold)
	switch x.Tell {
	case api.TellFired:
		l.fired[x.Strategy] = s.client
	case api.TellHalted, api.TellFaulted:
		l.run(x.Strategy, false)
	}
}

// act is an action of a client.
func (l *look) act(client int) {
	l.acts[client]++
	l.need(l.acts[client] <= l.config.Acts, api.ErrAuditQuota)
}

// hasFired tells whether a strategy of a client was told as fired.
func (l *look) hasFired(client int) bool {
	for _, whose := range l.fired {
		if whose == client {
			return true
		}
	}
	return false
}
