package store

import "tripwire/api"

// command is one whose parts a pen goes over.
type command struct {
	api.Command
}

// part is one thing that an Op names.
type part func(c *command, p pen)

// parts are what an Op names, in the order in which it is written; false: it is none.
func parts(op api.Op) ([]part, bool) {
	table := [...][]part{
		api.OpEnter:  {(*command).client, (*command).kind, (*command).side, (*command).entryPrice, (*command).entryQty},
		api.OpAmend:  {(*command).client, (*command).id, (*command).price, (*command).qty},
		api.OpCancel: {(*command).client, (*command).id},
		api.OpTick:   {(*command).time},
		api.OpUpload: {(*command).client, (*command).source},
		api.OpStart:  {(*command).client, (*command).id},
		api.OpStop:   {(*command).client, (*command).id},
		api.OpDrop:   {(*command).client, (*command).id},
		api.OpBook:   {},
		api.OpStatus: {(*command).id},
		api.OpQuota:  {(*command).client},
	}
	if op < api.OpEnter || int(op) >= len(table) {
		return nil, false
	}
	return table[op], true
}

// through goes over the Op, and what that names.
func (c *command) through(p pen) {
	small(p, &c.Op)
	all, is := parts(c.Op)
	need(is)
	for _, one := range all {
		one(c, p)
	}
}

func (c *command) client(p pen)     { signed(p, &c.Client) }
func (c *command) kind(p pen)       { small(p, &c.Entry.Kind) }
func (c *command) side(p pen)       { small(p, &c.Entry.Side) }
func (c *command) entryPrice(p pen) { signed(p, &c.Entry.Price) }
func (c *command) entryQty(p pen)   { signed(p, &c.Entry.Qty) }
func (c *command) id(p pen)         { signed(p, &c.ID) }
func (c *command) price(p pen)      { signed(p, &c.Price) }
func (c *command) qty(p pen)        { signed(p, &c.Qty) }
func (c *command) time(p pen)       { signed(p, &c.Time) }
func (c *command) source(p pen)     { c.Source = p.text(c.Source) }

// config is one whose numbers a pen goes over.
type config struct {
	api.Config
}

func (c *config) through(p pen) {
	r := &c.Rules
	signed(p, &r.Clients)
	signed(p, &r.Tick, &r.Lot, &r.Low, &r.High, &r.Most)
	signed(p, &c.Orders, &c.Levels)
	signed(p, &c.Volume)
	signed(p, &c.IDs, &c.Rounds, &c.Strats, &c.Open, &c.Acts)
	signed(p, &c.Window)
}
