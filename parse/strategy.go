package parse

import "tripwire/api"

func (r *reader) strategy() api.Strategy {
	r.take("strategy")
	s := api.Strategy{Name: r.name()}
	r.take("{")
	s.Regs = list(r, "reg", api.MaxRegs, r.reg)
	s.Slots = list(r, "slot", api.MaxSlots, r.slot)
	s.States = list(r, "state", api.MaxStates, r.state)
	r.need(len(s.States) > 0, api.ErrParseToken)
	r.take("}")
	return s
}

func (r *reader) reg() api.Reg {
	x := api.Reg{At: r.take("reg").At}
	x.Name = r.name()
	x.Type = r.typeName()
	r.take("=")
	x.Init = r.initial()
	r.take(";")
	return x
}

func (r *reader) typeName() api.Type {
	t := typeOf(r.look())
	r.need(t != 0, api.ErrParseToken)
	r.step()
	return t
}

// initial reads what a register begins with: of all that a minus could stand ahead of, a number alone may stand here.
func (r *reader) initial() api.Node {
	if !r.is("-") {
		return r.literal()
	}
	at := r.step().At
	r.need(r.look().Kind == api.TokenNumber, api.ErrParseToken)
	return api.Node{Kind: api.NodeUnary, Oper: api.OperNeg, Kids: []api.Node{r.literal()}, At: at}
}

func (r *reader) slot() api.Slot {
	x := api.Slot{At: r.take("slot").At}
	x.Name = r.name()
	r.take(";")
	return x
}

func (r *reader) state() api.State {
	x := api.State{At: r.take("state").At}
	x.Name = r.name()
	r.take("{")
	x.Rules = list(r, "when", api.MaxRules, r.rule)
	r.take("}")
	return x
}

func (r *reader) rule() api.Rule {
	x := api.Rule{At: r.take("when").At}
	x.When = r.expr()
	r.take("do")
	first := r.do()
	others := list(r, ",", api.MaxDos-1, r.otherDo)
	x.Dos = append([]api.Do{first}, others...)
	r.take(";")
	return x
}

func (r *reader) otherDo() api.Do {
	r.take(",")
	return r.do()
}

func (r *reader) do() api.Do {
	kind := doOf(r.look())
	r.need(kind != 0, api.ErrParseToken)
	d := api.Do{Kind: kind, At: r.step().At}
	switch kind {
	case api.DoSubmit:
		r.submit(&d)
	case api.DoAmend:
		r.amend(&d)
	case api.DoSet:
		r.set(&d)
	case api.DoCancel, api.DoGoto:
		d.Name = r.name()
	}
	return d
}

func (r *reader) submit(d *api.Do) {
	d.Side = r.expr()
	r.take("of")
	d.Qty = r.expr()
	if r.is("market") {
		r.step()
		d.Order = api.Market
	} else {
		r.take("at")
		d.Price = r.expr()
		d.Order = r.order()
	}
	if r.is("as") {
		r.step()
		d.Name = r.name()
	}
}

func (r *reader) order() api.Kind {
	k := orderOf(r.look())
	r.need(k != 0, api.ErrParseToken)
	r.step()
	return k
}

func (r *reader) amend(d *api.Do) {
	d.Name = r.name()
	r.take("to")
	d.Qty = r.expr()
	r.take("at")
	d.Price = r.expr()
}

func (r *reader) set(d *api.Do) {
	d.Name = r.name()
	r.take("=")
	d.Value = r.expr()
}
