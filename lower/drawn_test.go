package lower_test

import (
	"reflect"
	"slices"

	"tripwire/api"
)

type value = reflect.Value

// Trees that may be, drawn: most of what they ask fits, with something wrong once in a while.

type drawer struct {
	below func(int) int
	regs  []api.Reg

	// slips is how seldom something is wrong: one in so many; 0: never.
	slips int

	// known makes most of what has no kids literals.
	known bool
}

func (d drawer) slip() bool { return d.slips > 0 && d.below(d.slips) == 0 }

func (d drawer) typed() api.Type { return api.Type(1 + d.below(6)) }

func (d drawer) number() api.Type { return api.Type(1 + d.below(4)) }

func (d drawer) name() string {
	return []string{"a", "b", "x2_y", "lim", "bids", longName, "q", "p", "t", "n", "way", "so"}[d.below(12)]
}

func (d drawer) literal(to api.Type) api.Node {
	switch to {
	case tBool:
		return lit(to, int64(d.below(2)))
	case tSide:
		return lit(to, int64(1+d.below(2)))
	}
	return lit(to, []int64{0, 1, 7, 1000, greatest}[d.below(5)])
}

// leaf is a node without kids of this type.
func (d drawer) leaf(to api.Type) api.Node {
	if d.slip() {
		return reg([]string{"zz", "o", "s", d.name()}[d.below(4)])
	}
	if d.known && d.below(4) > 0 {
		return d.literal(to)
	}
	if r := d.below(len(d.regs) + 1); r < len(d.regs) && d.regs[r].Type == to {
		return reg(d.regs[r].Name)
	}
	switch {
	case to == tBool && d.below(2) == 0:
		return has(api.Field(1 + d.below(3)))
	case to == tPrice && d.below(2) == 0:
		return field(api.Field(1 + d.below(3)))
	case to == tQty && d.below(2) == 0:
		return field([]api.Field{api.FieldVolume, api.FieldOpen}[d.below(2)])
	case to == tTime && d.below(2) == 0:
		return field(api.FieldNow)
	}
	return d.literal(to)
}

// expr is one of this type with about so many nodes.
func (d drawer) expr(to api.Type, size int) api.Node {
	if d.slip() {
		to = d.typed()
	}
	if size <= 1 {
		return d.leaf(to)
	}
	rest := size - 1
	if d.below(6) == 0 {
		return cond(d.expr(tBool, rest/3), d.expr(to, rest/3), d.expr(to, rest/3))
	}
	switch to {
	case tBool:
		return d.asked(rest)
	case tSide:
		return cond(d.expr(tBool, rest), d.leaf(to), d.leaf(to))
	}
	return d.reckoned(to, rest)
}

// asked is of TypeBool, with kids of so many nodes.
func (d drawer) asked(size int) api.Node {
	switch d.below(4) {
	case 0:
		return unary(api.OperNot, d.expr(tBool, size))
	case 1:
		return binary(api.Oper(17+d.below(2)), d.pair(tBool, tBool, size)...)
	case 2:
		to := d.typed()
		return binary(api.Oper(11+d.below(2)), d.pair(to, to, size)...)
	}
	to := d.number()
	return binary(api.Oper(13+d.below(4)), d.pair(to, to, size)...)
}

// reckoned is a number, with kids of so many nodes.
func (d drawer) reckoned(to api.Type, size int) api.Node {
	switch d.below(9) {
	case 0:
		return unary(api.OperNeg, d.expr(to, size))
	case 1:
		return call(api.OperAbs, d.expr(to, size))
	case 2:
		return conv(to, d.expr(d.number(), size))
	case 3:
		return call(api.Oper(4+d.below(2)), d.pair(to, to, size)...)
	case 4:
		return binary(api.OperMul, d.pair(tInt, to, size)...)
	case 5:
		return binary(api.OperMul, d.pair(to, tInt, size)...)
	case 6:
		if to == tInt {
			other := d.number()
			return binary(api.OperDiv, d.pair(other, other, size)...)
		}
		return binary(api.OperDiv, d.pair(to, tInt, size)...)
	case 7:
		if to == tInt {
			return binary(api.OperMul, d.pair(tPrice, tQty, size)...)
		}
	}
	return binary([]api.Oper{api.OperAdd, api.OperSub, api.OperMod}[d.below(3)], d.pair(to, to, size)...)
}

// pair shares so many nodes out: often nearly all of them to one, whereby rows come about, and depths.
func (d drawer) pair(first, second api.Type, size int) []api.Node {
	much := []int{1, size / 2, d.below(size + 1), size - 1}[d.below(4)]
	return []api.Node{d.expr(first, much), d.expr(second, size-much)}
}

// any is one of these names, or now and then any.
func (d drawer) any(names []string) string {
	if len(names) == 0 || d.slip() {
		return d.name()
	}
	return names[d.below(len(names))]
}

// do is something done that is no end; slots are the names that there are.
func (d drawer) do(slots []string) api.Do {
	part := func(to api.Type) api.Node { return d.expr(to, 1+d.below(6)) }
	kind := 1 + d.below(4)
	if len(d.regs) == 0 && kind == 4 || len(slots) == 0 && (kind == 2 || kind == 3) {
		kind = 1
	}
	switch kind {
	case 2:
		return amend(d.any(slots), part(tQty), part(tPrice))
	case 3:
		return cancel(d.any(slots))
	case 4:
		r := d.regs[d.below(len(d.regs))]
		if d.slip() {
			return set(d.name(), part(r.Type))
		}
		return set(r.Name, part(r.Type))
	}
	x := api.Do{Kind: api.DoSubmit, Order: api.Kind(1 + d.below(5)), Side: part(tSide), Qty: part(tQty)}
	if x.Order != api.Market {
		x.Price = part(tPrice)
	}
	if len(slots) > 0 && d.below(2) == 0 {
		x.Name = d.any(slots)
	}
	return x
}

// end is what a rule does last.
func (d drawer) end(states []string) api.Do {
	if d.below(2) == 0 {
		return halt()
	}
	return goTo(d.any(states))
}

// rule does something, and may end by a goto or a halt; now and then that is not the end.
func (d drawer) rule(slots, states []string) api.Rule {
	r := api.Rule{When: d.expr(tBool, 1+d.below(10))}
	for range 1 + d.below(3) {
		r.Dos = append(r.Dos, d.do(slots))
		if d.slip() {
			r.Dos = append(r.Dos, d.end(states))
		}
	}
	if d.below(2) == 0 {
		r.Dos = append(r.Dos, d.end(states))
	}
	return r
}

// fresh are so many names, each once but for a slip.
func (d drawer) fresh(count int) []string {
	all := []string{}
	for len(all) < count {
		name := d.name()
		if !slices.Contains(all, name) || d.slip() {
			all = append(all, name)
		}
	}
	return all
}

// strategy has places of its own each, so that it tells which part is meant.
func (d drawer) strategy() api.Strategy {
	s := api.Strategy{Name: d.name()}
	for _, name := range d.fresh(d.below(7)) {
		to := d.typed()
		r := api.Reg{Name: name, Type: to, Init: d.literal(to)}
		if to <= tTime && d.below(2) == 0 {
			r.Init = unary(api.OperNeg, r.Init)
		}
		if d.slip() {
			r.Type = d.typed()
		}
		s.Regs = append(s.Regs, r)
	}
	d.regs = s.Regs
	slots, states := d.fresh(d.below(4)), d.fresh(1+d.below(3))
	for _, name := range slots {
		s.Slots = append(s.Slots, api.Slot{Name: name})
	}
	for _, name := range states {
		x := api.State{Name: name}
		for range d.below(4) {
			x.Rules = append(x.Rules, d.rule(slots, states))
		}
		s.States = append(s.States, x)
	}
	return numbered(s)
}

// strewn is a tree with one of its fields another one: it may be or not.
func (d drawer) strewn(s api.Strategy) api.Strategy {
	out := copied(s)
	count := 0
	leaves(elem(&out), "", func(string, value) { count++ })
	which := d.below(count)
	leaves(elem(&out), "", func(name string, v value) {
		if which--; which != -1 {
			return
		}
		switch {
		case v.CanInt():
			v.SetInt(int64(d.below(10)) - 2)
		case v.CanUint():
			v.SetUint(uint64(d.below(20)))
		default:
			v.SetString([]string{"", "bid", "zz", d.name()}[d.below(4)])
		}
	})
	return out
}
