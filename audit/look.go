package audit

import (
	"slices"

	"tripwire/api"
)

// look is a judge's look at one reply: what it finds is done at once to what the judge knows.
type look struct {
	*Judge
	command api.Command
	reply   api.Reply
	needs   needs
	at      int         // the place of the thing that is looked at; 0 where none is
	under   api.Order   // the entry under way: Qty is what is left of it; if nothing is, none is under way
	fired   map[int]int // of each strategy that was told as fired, whose it is
}

func newLook(j *Judge, c api.Command, r api.Reply) *look {
	l := &look{Judge: j, command: c, reply: r, fired: map[int]int{}}
	l.needs = l.events()
	return l
}

// need gives the reply up.
func (l *look) need(is bool, why api.Errno) {
	if !is {
		panic(verdict{why, l.at})
	}
}

// through goes through all that is asked of a reply, in its order.
func (l *look) through() {
	if l.reply.Err != api.OK {
		l.need(isRefusal(l.command.Op, l.reply), api.ErrAuditReply)
		return
	}
	l.need(l.isBounded() && l.isItsOwn() && l.isAnswerable(), api.ErrAuditReply)
	l.do()
	l.told()
	l.need(l.reply.Top == l.Top(), api.ErrAuditTop)
	l.need(l.isDumped(), api.ErrAuditDump)
}

// isRefusal tells whether a reply says nothing beside its error.
func isRefusal(op api.Op, r api.Reply) bool {
	if r.At != 0 && op != api.OpUpload {
		return false
	}
	return r.ID == 0 && len(r.Told) == 0 && r.Rounds == 0 && r.Steps == 0 && r.Top == api.Top{} &&
		len(r.Orders) == 0 && isNoughts(r.Stand) && r.Usage == api.Usage{}
}

func isNoughts(s api.Standing) bool {
	return s.ID == 0 && s.Client == 0 && s.Status == 0 && s.Code == api.OK && s.State == 0 &&
		len(s.Regs) == 0 && len(s.Slots) == 0 && s.Snap == api.Snap{}
}

// isBounded tells whether a reply's numbers may be any command's.
func (l *look) isBounded() bool {
	r := l.reply
	return r.At == 0 && isFrom(r.Rounds, 0, l.config.Rounds) && r.Steps >= 0
}

// isItsOwn tells whether a reply says nothing that is another Op's to say.
func (l *look) isItsOwn() bool {
	op, r := l.command.Op, l.reply
	switch {
	case !isCascade(op) && (len(r.Told) > 0 || r.Rounds != 0 || r.Steps != 0):
		return false
	case op != api.OpEnter && op != api.OpUpload && r.ID != 0:
		return false
	case op != api.OpBook && len(r.Orders) > 0:
		return false
	case op != api.OpStatus && !isNoughts(r.Stand):
		return false
	}
	return op == api.OpQuota || r.Usage == api.Usage{}
}

// isCascade tells whether a command of an Op may set something going.
func isCascade(op api.Op) bool { return isByHand(op) || op == api.OpTick || op == api.OpStart }

// isByHand tells whether a command of an Op is an action of its client.
func isByHand(op api.Op) bool {
	return op == api.OpEnter || op == api.OpAmend || op == api.OpCancel
}

// isAnswerable tells whether such a command can have been done at all.
func (l *look) isAnswerable() bool {
	c := l.command
	s, is := l.strategies[c.ID]
	owns := is && s.client == c.Client
	switch c.Op {
	case api.OpEnter:
		return l.has(c.Client) && len(l.reply.Told) > 0
	case api.OpAmend, api.OpCancel, api.OpQuota:
		return l.has(c.Client)
	case api.OpTick:
		return isFrom(c.Time, l.now, api.MaxTime)
	case api.OpUpload:
		return l.has(c.Client) && l.reply.ID > l.newest
	case api.OpStart, api.OpDrop:
		return owns && !s.runs
	case api.OpStop:
		return owns && s.runs
	case api.OpBook:
		return true
	case api.OpStatus:
		return is
	}
	return false
}

// do does what the command itself does.
func (l *look) do() {
	c := l.command
	switch c.Op {
	case api.OpTick:
		if c.Time/l.config.Window != l.now/l.config.Window {
			clear(l.acts[:])
		}
		l.now = c.Time
	case api.OpUpload:
		l.newest = l.reply.ID
		l.strategies[l.newest] = strategy{client: c.Client}
		l.need(l.strats(c.Client) <= l.config.Strats, api.ErrAuditQuota)
	case api.OpStart, api.OpStop:
		l.run(c.ID, c.Op == api.OpStart)
	case api.OpDrop:
		delete(l.strategies, c.ID)
	}
}

// isDumped tells whether what was asked for is what the judge has.
func (l *look) isDumped() bool {
	c, r := l.command, l.reply
	switch c.Op {
	case api.OpBook:
		return slices.Equal(r.Orders, l.Orders())
	case api.OpQuota:
		return r.Usage == l.Usage(c.Client)
	case api.OpStatus:
		return l.isStanding(c.ID, r.Stand)
	}
	return true
}

func (l *look) isStanding(id int, s api.Standing) bool {
	is := l.strategies[id]
	if s.ID != id || s.Client != is.client || (s.Status == api.Running) != is.runs {
		return false
	}
	return !is.runs || s.Snap == l.view(is.client)
}

// view is what a client sees.
func (l *look) view(client int) api.Snap {
	top := l.Top()
	_, lots := l.open(client)
	return api.Snap{Bid: top.Bid, Ask: top.Ask, Last: top.Last, Volume: top.Volume, Now: l.now, Open: lots}
}
