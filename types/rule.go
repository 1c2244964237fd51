package types

import "tripwire/api"

// part is an expression of something done, and the type that it must have.
type part struct {
	expr api.Node
	must api.Type
}

func (k known) checkRule(r api.Rule) error {
	if err := k.checkPart(part{r.When, api.TypeBool}); err != nil {
		return err
	}
	return k.checkDos(r.Dos)
}

func (k known) checkPart(p part) error {
	t, err := k.regs.typeOf(p.expr)
	if err != nil {
		return around(err)
	}
	if t != p.must {
		return wrong(p.expr.At, api.ErrTypesFit)
	}
	return nil
}

// checkDos goes through what a rule does, up to the first part that is wrong.
func (k known) checkDos(dos []api.Do) error {
	var found error
	ended := false
things:
	for _, d := range dos {
		switch {
		case ended:
			found = wrong(d.At, api.ErrTypesLast)
			break things
		case !k.stands(d):
			found = wrong(d.At, api.ErrTypesNone)
			break things
		}
		for _, p := range k.parts(d) {
			if found = k.checkPart(p); found != nil {
				break things
			}
		}
		ended = d.Kind == api.DoGoto || d.Kind == api.DoHalt
	}
	return found
}

// stands tells whether the name of something done, if it has one, is that of something of its kind.
func (k known) stands(d api.Do) bool {
	switch d.Kind {
	case api.DoSubmit:
		return d.Name == "" || k.slots.has(d.Name)
	case api.DoAmend, api.DoCancel:
		return k.slots.has(d.Name)
	case api.DoSet:
		_, is := k.regs[d.Name]
		return is
	case api.DoGoto:
		return k.states.has(d.Name)
	}
	return true
}

// parts are the expressions that something done has, in order.
func (k known) parts(d api.Do) []part {
	side, qty, price := part{d.Side, api.TypeSide}, part{d.Qty, api.TypeQty}, part{d.Price, api.TypePrice}
	switch d.Kind {
	case api.DoSubmit:
		if d.Order == api.Market {
			return []part{side, qty}
		}
		return []part{side, qty, price}
	case api.DoAmend:
		return []part{qty, price}
	case api.DoSet:
		return []part{{d.Value, k.regs[d.Name]}}
	}
	return nil
}
