package lower

import (
	"tripwire/api"
	"tripwire/mean"
)

// tableOf is the table of a strategy that may be, however long it gets.
func tableOf(s api.Strategy) api.Table {
	l := begin(s)
	states := each(s.States, l.state)
	start, _ := mean.Start(s)
	return api.Table{Name: s.Name, Regs: start.Regs, Slots: len(s.Slots), Consts: l.consts, Code: l.code, States: states}
}

func (l *layer) state(x api.State) []api.Guard { return each(x.Rules, l.guard) }

func (l *layer) guard(r api.Rule) api.Guard {
	when := l.expr(r.When)
	fields, regs := reads(l.code[when.From:when.To])
	return api.Guard{When: when, Fields: fields, Regs: regs, Rows: each(r.Dos, l.row)}
}

// reads are the fields and the registers that instructions name.
func reads(code []api.Instr) (fields api.Mask, regs uint16) {
	for _, in := range code {
		switch in.Kind {
		case api.InstrField, api.InstrHas:
			fields |= 1 << in.A
		case api.InstrReg:
			regs |= 1 << in.A
		}
	}
	return fields, regs
}

func (l *layer) row(d api.Do) api.Row {
	x := api.Row{Kind: d.Kind, Order: d.Order, Index: l.index(d)}
	// One by one: in this order they stand in the code.
	x.Side = l.expr(d.Side)
	x.Qty = l.expr(d.Qty)
	x.Price = l.expr(d.Price)
	x.Value = l.expr(d.Value)
	return x
}

// index is the number of what a thing done names.
func (l *layer) index(d api.Do) int {
	switch d.Kind {
	case api.DoSubmit, api.DoAmend, api.DoCancel:
		// A submit without a slot names none: that is 0.
		return l.slots[d.Name]
	case api.DoSet:
		return l.regs[d.Name]
	case api.DoGoto:
		return l.states[d.Name]
	}
	return 0
}
