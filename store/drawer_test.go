package store_test

import (
	"strings"

	"tripwire/api"
	"tripwire/venue"
)

// drawer draws configs and scripts of commands, in which what is right, what is just right and what is wrong all come.
type drawer struct {
	below func(n int) int
	c     api.Config
}

func drawn(from uint64) *drawer {
	d := &drawer{below: draw(from)}
	d.c = api.Config{
		Rules:  api.Rules{Clients: d.number(1, 2, 2, 3, 8), Tick: int64(d.number(1, 1, 2)), Lot: int64(d.number(1, 1, 2)), Low: 2, High: 20, Most: 10},
		Orders: d.number(4, 16, 40, 256), Levels: d.number(3, 8, 128), Volume: int64(d.number(20, 1000, 100000)), IDs: d.number(20, 1000, 100000),
		Rounds: d.number(1, 2, 3, 16), Strats: d.number(1, 2, 3, 8), Open: d.number(2, 4, 256), Acts: d.number(10, 40, 1000000), Window: int64(d.number(1, 5, 30, lastTime)),
	}
	return d
}

func (d *drawer) number(l ...int) int { return l[d.below(len(l))] }

// edge is a number, often one at which its bytes, or its sign, become others.
func (d *drawer) edge() int64 {
	l := []int64{0, 1, -1, 2, 63, 64, -64, -65, 127, 128, 8191, 8192, -8192, -8193, least, least + 1, greatest - 1, greatest}
	if d.below(3) == 0 {
		return int64(d.below(200)) - 100
	}
	return l[d.below(len(l))]
}

// small is a number of eight bits, mostly one that means something.
func (d *drawer) small(most int) int {
	if d.below(10) == 0 {
		return d.number(0, most+1, 127, 128, 255, d.below(256))
	}
	return 1 + d.below(most)
}

// anything is a command whose numbers are any.
func (d *drawer) anything() api.Command {
	return api.Command{
		Op: api.Op(d.small(11)), Client: int(d.edge()), ID: int(d.edge()), Price: d.edge(), Qty: d.edge(), Time: d.edge(), Source: d.source(),
		Entry: api.Entry{Client: int(d.edge()), Kind: api.Kind(d.small(5)), Side: api.Side(d.small(2)), Price: d.edge(), Qty: d.edge()},
	}
}

func (d *drawer) source() string {
	l := []string{hunter, hunter, taker, clock, faulter, poster, "", "strategy", "strategy s { state a & }", "a\x00\xff\x80b", strings.Repeat("#", d.number(127, 128, 200))}
	return l[d.below(len(l))]
}

// client is one that there is, mostly.
func (d *drawer) client() int {
	if d.below(25) == 0 {
		return d.number(least, -1, 0, d.c.Rules.Clients+1, greatest)
	}
	return 1 + d.below(d.c.Rules.Clients)
}

// command is one of all, at a venue; what its Op does not name is drawn, too: it must not tell.
func (d *drawer) command(v *venue.Venue) api.Command {
	if d.below(20) == 0 {
		return d.anything()
	}
	ops := []api.Op{
		api.OpEnter, api.OpEnter, api.OpEnter, api.OpEnter, api.OpEnter, api.OpEnter, api.OpAmend, api.OpAmend, api.OpCancel, api.OpTick, api.OpTick,
		api.OpUpload, api.OpUpload, api.OpStart, api.OpStart, api.OpStart, api.OpStop, api.OpDrop, api.OpBook, api.OpStatus, api.OpQuota,
	}
	c := api.Command{Op: ops[d.below(len(ops))], Client: d.client(), ID: d.below(5), Price: int64(2 + 2*d.below(10)), Qty: int64(2 + 2*d.below(5)), Time: v.Now() + int64(d.below(4)), Source: d.source()}
	c.Entry = api.Entry{Client: d.below(9) - 4, Kind: api.Kind(d.small(5)), Side: api.Side(d.small(2)), Price: int64(2 + 2*d.below(10)), Qty: int64(2 + 2*d.below(5))}
	if c.Entry.Kind == api.Market {
		c.Entry.Price = 0
	}
	orders, strategies := v.Do(book()).Orders, v.Strategies()
	switch {
	case (c.Op == api.OpAmend || c.Op == api.OpCancel) && len(orders) > 0 && d.below(8) > 0:
		o := orders[d.below(len(orders))]
		c.ID, c.Client = o.ID, o.Client
	case (c.Op == api.OpStart || c.Op == api.OpStop || c.Op == api.OpDrop || c.Op == api.OpStatus) && len(strategies) > 0 && d.below(8) > 0:
		s, _ := v.Stand(strategies[d.below(len(strategies))])
		c.ID, c.Client = s.ID, s.Client
	case c.Op == api.OpTick && d.below(8) == 0:
		c.Time = []int64{least, -1, v.Now() - 1, v.Now() + 100, lastTime + 1, greatest}[d.below(6)]
	}
	return c
}
