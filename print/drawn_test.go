package print_test

import "tripwire/api"

// Trees that may be, drawn.

type drawer struct {
	below func(int) int
}

func (d drawer) name() string {
	return []string{"a", "b", "x2_y", "lim", "bids", longName, "q", "p", "t", "n"}[d.below(10)]
}

func (d drawer) number() int64 {
	return []int64{0, 1, 2, 3, 10, 4096, 1000000000, greatest}[d.below(8)]
}

func (d drawer) leaf() api.Node {
	switch d.below(8) {
	case 0:
		return reg(d.name())
	case 1:
		return field(api.Field(1 + d.below(6)))
	case 2:
		return has(api.Field(1 + d.below(3)))
	}
	return d.literal()
}

func (d drawer) literal() api.Node {
	switch to := api.Type(1 + d.below(6)); to {
	case api.TypeBool:
		return lit(to, int64(d.below(2)))
	case api.TypeSide:
		return lit(to, int64(1+d.below(2)))
	default:
		return lit(to, d.number())
	}
}

// expr has about so many nodes.
func (d drawer) expr(size int) api.Node {
	if size <= 1 {
		return d.leaf()
	}
	rest := size - 1
	switch d.below(10) {
	case 0, 1:
		return unary(api.Oper(1+d.below(2)), d.expr(rest))
	case 2:
		return cond(d.expr(rest/3), d.expr(rest/3), d.expr(rest/3))
	case 3:
		return call(3, d.expr(rest))
	case 4:
		return call(api.Oper(4+d.below(2)), d.pair(rest)...)
	case 5:
		return conv(api.Type(1+d.below(4)), d.expr(rest))
	}
	return binary(api.Oper(6+d.below(13)), d.pair(rest)...)
}

// pair shares so many nodes out: often nearly all of them to one, whereby rows come about, and depths.
func (d drawer) pair(size int) []api.Node {
	first := []int{1, size / 2, d.below(size + 1), size - 1}[d.below(4)]
	return []api.Node{d.expr(first), d.expr(size - first)}
}

// within is an expression in which another one stands.
func (d drawer) within(n api.Node) api.Node {
	all := within(n)
	return all[d.below(len(all))]
}

func (d drawer) do() api.Do {
	part := func() api.Node { return d.expr(1 + d.below(8)) }
	switch kind := api.DoKind(1 + d.below(6)); kind {
	case api.DoSubmit:
		x := api.Do{Kind: kind, Order: api.Kind(1 + d.below(5)), Side: part(), Qty: part()}
		if x.Order != api.Market {
			x.Price = part()
		}
		if d.below(2) == 0 {
			x.Name = d.name()
		}
		return x
	case api.DoAmend:
		return api.Do{Kind: kind, Name: d.name(), Qty: part(), Price: part()}
	case api.DoSet:
		return set(d.name(), part())
	case api.DoHalt:
		return halt()
	default:
		return api.Do{Kind: kind, Name: d.name()}
	}
}

func (d drawer) reg() api.Reg {
	r := api.Reg{Name: d.name(), Type: api.Type(1 + d.below(6)), Init: d.literal()}
	if r.Init.Type <= api.TypeTime && d.below(2) == 0 {
		r.Init = unary(1, r.Init)
	}
	return r
}

// few is a count, seldom as great as may be.
func (d drawer) few(greatest int) int {
	if d.below(20) == 0 {
		return greatest
	}
	return d.below(min(greatest, 4) + 1)
}

func (d drawer) strategy() api.Strategy {
	s := api.Strategy{Name: d.name()}
	for range d.few(12) {
		s.Regs = append(s.Regs, d.reg())
	}
	for range d.few(4) {
		s.Slots = append(s.Slots, api.Slot{Name: d.name()})
	}
	for range max(1, d.few(12)) {
		x := api.State{Name: d.name()}
		for range d.few(12) {
			r := api.Rule{When: d.expr(1 + d.below(12))}
			for range max(1, d.few(8)) {
				r.Dos = append(r.Dos, d.do())
			}
			x.Rules = append(x.Rules, r)
		}
		s.States = append(s.States, x)
	}
	return s
}
