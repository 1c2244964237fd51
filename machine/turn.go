package machine

import "tripwire/api"

// noRule is told where none fires.
const noRule = -1

// turn is what a guard's rows have done so far; it is the mode's, or nobody's, when all of it has been reckoned.
type turn struct {
	*runner
	state   int
	actions []api.Action
	status  api.Status
}

// fire does what the first guard does that holds, and tells which one that is.
func (t *turn) fire(guards []api.Guard) int {
	for i, g := range guards {
		if t.value(g.When) != 0 {
			t.doAll(g.Rows)
			return i
		}
	}
	return noRule
}

func (t *turn) doAll(rows []api.Row) {
	// What each kind of row does.
	deeds := [...]func(t *turn, row api.Row){
		api.DoSubmit: (*turn).submit,
		api.DoAmend:  (*turn).amend,
		api.DoCancel: (*turn).cancel,
		api.DoSet:    (*turn).set,
		api.DoGoto:   (*turn).goOn,
		api.DoHalt:   (*turn).halt,
	}
	for _, row := range rows {
		deeds[row.Kind](t, row)
	}
}

func (t *turn) submit(row api.Row) {
	a := api.Action{Act: api.ActSubmit, Kind: row.Order, Slot: row.Index}
	a.Side = t.side(row.Side)
	a.Qty = t.value(row.Qty)
	if row.Order != api.Market {
		a.Price = t.value(row.Price)
	}
	t.actions = append(t.actions, a)
}

// side is a span's value, which may be any number in a table that no text has made.
func (t *turn) side(x api.Span) api.Side {
	n := t.value(x)
	if n != int64(api.Buy) && n != int64(api.Sell) {
		panic(fault(api.ErrMachineSide))
	}
	return api.Side(n)
}

func (t *turn) amend(row api.Row) {
	a := api.Action{Act: api.ActAmend, Slot: row.Index}
	a.Qty = t.value(row.Qty)
	a.Price = t.value(row.Price)
	t.actions = append(t.actions, a)
}

func (t *turn) cancel(row api.Row) {
	t.actions = append(t.actions, api.Action{Act: api.ActCancel, Slot: row.Index})
}

func (t *turn) set(row api.Row) { t.regs[row.Index] = t.value(row.Value) }

func (t *turn) goOn(row api.Row) { t.state = row.Index }

func (t *turn) halt(api.Row) { t.status = api.Halted }
