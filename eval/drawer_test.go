package eval_test

import (
	"reflect"
	"slices"

	"tripwire/api"
	"tripwire/snap"
)

// drawer draws tables that may be, such as lower makes and others, with modes and snapshots to them.
type drawer struct {
	below  func(n int) int
	regs   int
	consts int
	slots  int
	states int
}

// moved is instructions that begin later.
func moved(l []api.Instr, by int) []api.Instr {
	l = slices.Clone(l)
	for i := range l {
		if jumps(l[i].Kind) {
			l[i].A += by
		}
	}
	return l
}

// joined is instructions one behind the other, each of which is told from its own beginning on.
func joined(parts ...[]api.Instr) []api.Instr {
	var all []api.Instr
	for _, l := range parts {
		all = append(all, moved(l, len(all))...)
	}
	return all
}

func one(k api.InstrKind, a int) []api.Instr { return []api.Instr{{Kind: k, A: a}} }

func (d drawer) leaf() []api.Instr {
	switch k := d.below(6); {
	case k < 2 && d.consts > 0:
		return one(api.InstrConst, d.below(d.consts))
	case k < 4 && d.regs > 0:
		return one(api.InstrReg, d.below(d.regs))
	case k == 4:
		return one(api.InstrField, 1+d.below(6))
	}
	return one(api.InstrHas, 1+d.below(3))
}

// expr is instructions that lay one number, so large at most.
func (d drawer) expr(size int) []api.Instr {
	if size <= 1 {
		return d.leaf()
	}
	a, b := d.expr(size/2), d.expr((size-1)/2)
	n, m := len(a), len(b)
	switch d.below(9) {
	case 0:
		return joined(a, one(api.InstrOper, 1+d.below(3)))
	case 1, 2:
		return joined(a, b, one(api.InstrOper, 4+d.below(13)))
	case 3, 4:
		return joined(a, one(api.InstrAnd+api.InstrKind(d.below(2)), 1+m), b)
	case 5, 6:
		c := d.expr(size / 3)
		return joined(a, one(api.InstrElse, 2+m), b, one(api.InstrJump, 1+len(c)), c)
	case 7:
		return joined(a, one(api.InstrJump, 1))
	}
	// What is taken off again, whichever it was.
	return append(joined(a, b), api.Instr{Kind: api.InstrElse, A: n + m + 1})
}

// side is instructions whose value mostly is a side.
func (d drawer) side() []api.Instr {
	if d.consts < 2 || d.below(6) == 0 {
		return d.expr(1 + d.below(5))
	}
	if d.below(3) == 0 {
		return joined(one(api.InstrHas, 1+d.below(3)), code("else 3, const 0, jump 4, const 1"))
	}
	return one(api.InstrConst, d.below(2))
}

func (d drawer) row(last bool) thing {
	expr := func() []api.Instr { return d.expr(1 + d.below(6)) }
	slot := func() int { return 1 + d.below(d.slots) }
	switch k := d.below(8); {
	case last && k == 0:
		return halt()
	case last && k == 1:
		return goTo(d.below(d.states))
	case k == 2 && d.slots > 0:
		return cancel(slot())
	case k == 3 && d.slots > 0:
		return thing{api.Row{Kind: api.DoAmend, Index: slot()}, [4][]api.Instr{nil, expr(), expr(), nil}}
	case (k == 4 || k == 5) && d.regs > 0:
		return thing{api.Row{Kind: api.DoSet, Index: d.below(d.regs)}, [4][]api.Instr{3: expr()}}
	case k == 6:
		return thing{api.Row{Kind: api.DoSubmit, Order: api.Market, Index: d.below(d.slots + 1)}, [4][]api.Instr{d.side(), expr(), nil, nil}}
	}
	order := []api.Kind{api.Limit, api.Now, api.All, api.Post}[d.below(4)]
	return thing{api.Row{Kind: api.DoSubmit, Order: order, Index: d.below(d.slots + 1)}, [4][]api.Instr{d.side(), expr(), expr(), nil}}
}

// seldom is a number in which ends and noughts are frequent.
func (d drawer) seldom() int64 {
	if d.below(4) == 0 {
		return edges()[d.below(len(edges()))]
	}
	return int64(d.below(12)) - 4
}

// table is one that may be.
func (d *drawer) table() api.Table {
	d.regs, d.consts, d.slots, d.states = d.below(7), d.below(6), d.below(5), 1+d.below(4)
	var states [][]rule
	for range d.states {
		var rules []rule
		for range d.below(5) {
			r := rule{when: d.expr(1 + d.below(12))}
			for last := d.below(4); last >= 0; last-- {
				r.rows = append(r.rows, d.row(last == 0))
			}
			rules = append(rules, r)
		}
		states = append(states, rules)
	}
	x := laid(states...)
	x.Slots, x.Regs, x.Consts = d.slots, nil, nil
	for range d.regs {
		x.Regs = append(x.Regs, d.seldom())
	}
	for k := range d.consts {
		n := d.seldom()
		if k < 2 {
			n = int64(k + 1)
		}
		x.Consts = append(x.Consts, n)
	}
	return x
}

// slip changes one number of a table, or a list's length.
func slip(x api.Table, below func(n int) int) api.Table {
	x = copied(x)
	var numbers, all []reflect.Value
	leaves(elem(&x), func(v reflect.Value) {
		if v.Kind() != reflect.String {
			numbers = append(numbers, v)
		}
	})
	lists(elem(&x), func(v reflect.Value) { all = append(all, v) })
	if below(6) == 0 {
		v := all[below(len(all))]
		switch n := v.Len(); {
		case n > 0 && below(2) == 0:
			v.Set(v.Slice(0, n-1))
		case n > 0:
			v.Set(reflect.Append(v, deepCopy(v.Index(below(n)))))
		}
		return x
	}
	v := numbers[below(len(numbers))]
	by := []int{1, -1, 2, -2, 3, 7, 256}[below(7)]
	if v.CanInt() {
		v.SetInt(v.Int() + int64(by))
	} else {
		v.SetUint(uint64(uint16(v.Uint()) + uint16(by)))
	}
	return x
}

// drawnTables are many; about one in five is slipped, so that it may be or not.
func drawnTables(from uint64, count int) []api.Table {
	var all []api.Table
	for k := range count {
		d := &drawer{below: draw(from + uint64(k))}
		x := d.table()
		if k%5 == 0 {
			x = slip(x, d.below)
		}
		all = append(all, x)
	}
	return all
}

// outcome is a turn's kind.
func outcome(f api.Firing, no api.Errno) string {
	switch {
	case no != api.OK:
		return no.Error()
	case f.Status == api.Faulted:
		return "faults " + f.Code.Error()[len("error "):]
	case f.Refused:
		return "refused"
	case f.Rule < 0:
		return "nothing"
	}
	kind := "fires"
	if f.Status == api.Halted {
		kind = "halts"
	}
	if len(f.Actions) > 0 {
		kind += " actions"
	}
	return kind
}

// feed is one that can be, behind w, most often; one in so many times it is drawn without looking.
func (d drawer) feed(w api.Snap, slips int) api.Feed {
	if slips > 0 && d.below(slips) == 0 {
		return api.Feed{Kind: api.FeedKind(d.below(8)), A: d.seldom(), B: d.seldom()}
	}
	some := int64(d.below(8))
	if d.below(20) == 0 {
		some = api.MaxPrice
	}
	switch d.below(6) {
	case 0, 1:
		return bid(some)
	case 2:
		return ask(some)
	case 3:
		return trade(max(1, some), int64(1+d.below(5)))
	case 4:
		return now(w.Now + int64(d.below(4)))
	}
	return open(max(-w.Open, int64(d.below(9))-4))
}

// batch is some feeds, one behind the other.
func (d drawer) batch(w api.Snap, slips int) []api.Feed {
	var all []api.Feed
	for range d.below(4) {
		f := d.feed(w, slips)
		all = append(all, f)
		if next, _, no := snap.Fold(w, f); no == api.OK {
			w = next
		}
	}
	return all
}

// seenSome is a snapshot in which often something is not there.
func (d drawer) seenSome() api.Snap {
	some := func(most int64) int64 {
		switch d.below(8) {
		case 0, 1:
			return 0
		case 2:
			return most
		}
		return int64(1 + d.below(12))
	}
	return api.Snap{Bid: some(api.MaxPrice), Ask: some(api.MaxPrice), Last: some(api.MaxPrice), Volume: some(1000), Now: some(1000), Open: some(1000)}
}
