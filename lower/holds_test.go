package lower_test

import (
	"slices"
	"testing"

	"tripwire/api"
	"tripwire/cost"
	"tripwire/lower"
	"tripwire/mean"
	"tripwire/tree"
	"tripwire/types"
)

// edges are numbers about nought and about the ends of 64 bits.
func edges() []int64 {
	return []int64{least, least + 1, least / 2, -3037000500, -7, -2, -1, 0, 1, 2, 7, 3037000500, greatest / 2, greatest - 1, greatest}
}

// mode is one of a strategy.
func (d drawer) mode(s api.Strategy) api.Mode {
	m := api.Mode{State: d.below(len(s.States))}
	for _, r := range s.Regs {
		n := int64(d.below(25)) - 8
		if d.below(3) == 0 {
			n = edges()[d.below(len(edges()))]
		}
		switch r.Type {
		case tBool:
			n = int64(d.below(2))
		case tSide:
			n = int64(1 + d.below(2))
		}
		m.Regs = append(m.Regs, n)
	}
	return m
}

// snap is a snapshot; often something is not there.
func (d drawer) snap() api.Snap {
	some := func(most int64) int64 {
		switch d.below(6) {
		case 0, 1:
			return 0
		case 2:
			return most
		}
		return int64(1 + d.below(12))
	}
	return api.Snap{Bid: some(api.MaxPrice), Ask: some(api.MaxPrice), Last: some(api.MaxPrice), Volume: some(api.MaxVolume), Now: some(api.MaxTime), Open: some(api.MaxOpen)}
}

// drawnExprs are expressions of strategies, and of their registers; all have a type, but few.
func drawnExprs(from uint64, count int, see func(d drawer, s api.Strategy, n api.Node)) {
	for k, s := range fitting(from, count) {
		d := drawer{below: draw(from + uint64(k)), regs: s.Regs, known: k%3 > 0}
		all := exprsOf(s)
		for range 4 {
			all = append(all, d.expr(d.typed(), 1+d.below(30)))
		}
		for _, n := range all {
			see(d, s, numbered(n))
		}
	}
}

// NOTHING IS LOST: the type stays, and in every mode, with every snapshot, the value or the fault.
func TestNothingIsLost(t *testing.T) {
	reached := map[api.Errno]int{}
	changed := 0
	drawnExprs(300000, 900, func(d drawer, s api.Strategy, n api.Node) {
		x := lower.Fold(n)
		to, err := types.Of(s, n)
		if err != nil {
			t.Fatalf("%s: %s", short(n), told(err))
		}
		if is, err := types.Of(s, x); is != to || err != nil {
			t.Errorf("%s has the type %d; folded %d, %s", short(n), to, is, told(err))
		}
		if !sameNode(n, x) {
			changed++
		}
		for range 4 {
			m, w := d.mode(s), d.snap()
			want, wantNo := mean.Value(s, n, m, w)
			if is, no := mean.Value(s, x, m, w); is != want || no != wantNo {
				t.Errorf("%s with %v, %v is %d, %d; folded %d, %d", short(n), m, w, want, wantNo, is, no)
			}
			reached[wantNo]++
		}
	})
	if changed < 1000 || reached[api.OK] < 5000 || reached[over] < 200 || reached[zero] < 200 || reached[absent] < 200 {
		t.Errorf("%d were changed; %v", changed, reached)
	}
}

// Folded it weighs no more, goes no deeper, has no more nodes, names no field and no register that it did not; folded again it is the same: also where it has no type.
func TestNothingIsAdded(t *testing.T) {
	lighter, shallower, fewer := 0, 0, 0
	see := func(d drawer, s api.Strategy, n api.Node) {
		if d.below(3) == 0 {
			d.slips = 6
			n = numbered(d.expr(d.typed(), 1+d.below(30)))
		}
		if tree.CheckExpr(n) != api.OK {
			return
		}
		x := lower.Fold(n)
		if no := tree.CheckExpr(x); no != api.OK {
			t.Errorf("%s is folded to %s, which may not be: %d", short(n), short(x), no)
		}
		if cost.Expr(x) > cost.Expr(n) || tree.Depth(x) > tree.Depth(n) || tree.Size(x) > tree.Size(n) {
			t.Errorf("%s weighs %d, goes %d deep; folded %d, %d", short(n), cost.Expr(n), tree.Depth(n), cost.Expr(x), tree.Depth(x))
		}
		fields, names := tree.Reads(n)
		fields2, names2 := tree.Reads(x)
		if fields2&^fields != 0 || slices.ContainsFunc(names2, func(name string) bool { return !slices.Contains(names, name) }) {
			t.Errorf("%s names %d, %v; folded %d, %v", short(n), fields, names, fields2, names2)
		}
		if again := lower.Fold(x); !sameNode(again, x) {
			t.Errorf("%s is folded to %s; again to %s", short(n), short(x), short(again))
		}
		count := func(of *int, is bool) {
			if is {
				*of++
			}
		}
		count(&lighter, cost.Expr(x) < cost.Expr(n))
		count(&shallower, tree.Depth(x) < tree.Depth(n))
		count(&fewer, fields2 != fields || len(names2) != len(names))
	}
	drawnExprs(400000, 1200, see)
	if lighter < 1000 || shallower < 500 || fewer < 200 {
		t.Errorf("%d are lighter, %d go less deep, %d read less", lighter, shallower, fewer)
	}
}

// run does instructions of a table, as package api tells what each does: what they come to, and how many numbers are left on the stack.
func run(x api.Table, at api.Span, regs []int64, w api.Snap) (r result, left int) {
	fields := []int64{0, w.Bid, w.Ask, w.Last, w.Volume, w.Now, w.Open}
	var stack []int64
	pop := func() int64 {
		n := stack[len(stack)-1]
		stack = stack[:len(stack)-1]
		return n
	}
	for place := at.From; place < at.To; place++ {
		in := x.Code[place]
		switch in.Kind {
		case api.InstrConst:
			stack = append(stack, x.Consts[in.A])
		case api.InstrField:
			if in.A <= 3 && fields[in.A] == 0 {
				return result{no: absent}, 1
			}
			stack = append(stack, fields[in.A])
		case api.InstrHas:
			stack = append(stack, said(fields[in.A] != 0).n)
		case api.InstrReg:
			stack = append(stack, regs[in.A])
		case api.InstrOper:
			b := pop()
			a := b
			if o := api.Oper(in.A); o > api.OperAbs {
				a = pop()
			}
			r := operOf(api.Oper(in.A), a, b)
			if r.no != api.OK {
				return r, 1
			}
			stack = append(stack, r.n)
		case api.InstrAnd, api.InstrOr:
			if (stack[len(stack)-1] != 0) == (in.Kind == api.InstrOr) {
				place = in.A - 1
			} else {
				pop()
			}
		case api.InstrElse:
			if pop() == 0 {
				place = in.A - 1
			}
		case api.InstrJump:
			place = in.A - 1
		}
	}
	return result{n: stack[0]}, len(stack)
}

// What the instructions come to is what the expression does, by its tree: of every guard, and of every part of what is done; each with one number left on the stack.
func TestTheTableIsTheTree(t *testing.T) {
	reached := map[api.Errno]int{}
	for k, s := range fitting(600000, 1200) {
		d := drawer{below: draw(uint64(k))}
		x := tableOf(t, s)
		for i, state := range s.States {
			for j, r := range state.Rules {
				g := x.States[i][j]
				nodes, spans := []api.Node{r.When}, []api.Span{g.When}
				for e, y := range r.Dos {
					nodes = append(nodes, y.Side, y.Qty, y.Price, y.Value)
					spans = append(spans, g.Rows[e].Side, g.Rows[e].Qty, g.Rows[e].Price, g.Rows[e].Value)
				}
				for e, n := range nodes {
					if n.Kind == 0 {
						if spans[e] != (api.Span{}) {
							t.Errorf("what is not there stands at %v", spans[e])
						}
						continue
					}
					for range 3 {
						m, w := d.mode(s), d.snap()
						want, wantNo := mean.Value(s, n, m, w)
						is, left := run(x, spans[e], m.Regs, w)
						if is.n != want || is.no != wantNo || left != 1 {
							t.Errorf("%s is %d, %d; its instructions say %+v, with %d left", short(n), want, wantNo, is, left)
						}
						reached[wantNo]++
					}
				}
			}
		}
	}
	if reached[api.OK] < 10000 || reached[over] < 100 || reached[zero] < 100 || reached[absent] < 500 {
		t.Error(reached)
	}
}

// A table says of each guard just what it reads: what its instructions name, each and no other; and what it does not say changes nothing of the guard.
func TestATableSaysWhatGuardsRead(t *testing.T) {
	fields, registers := 0, 0
	for k, s := range fitting(700000, 1200) {
		d := drawer{below: draw(uint64(k))}
		x := tableOf(t, s)
		for _, g := range slices.Concat(x.States...) {
			var named api.Mask
			var regs uint16
			for _, in := range x.Code[g.When.From:g.When.To] {
				switch in.Kind {
				case api.InstrField, api.InstrHas:
					named |= 1 << in.A
				case api.InstrReg:
					regs |= 1 << in.A
				}
			}
			if g.Fields != named || g.Regs != regs {
				t.Errorf("%s reads %b, %b; it says %b, %b", written(x.Code[g.When.From:g.When.To]), named, regs, g.Fields, g.Regs)
			}
			m, w, m2, w2 := d.mode(s), d.snap(), d.mode(s), d.snap()
			to := []*int64{nil, &w2.Bid, &w2.Ask, &w2.Last, &w2.Volume, &w2.Now, &w2.Open}
			for f, n := range []int64{0, w.Bid, w.Ask, w.Last, w.Volume, w.Now, w.Open} {
				if g.Fields>>f&1 == 1 {
					*to[f] = n
				}
			}
			for r := range m.Regs {
				if g.Regs>>r&1 == 1 {
					m2.Regs[r] = m.Regs[r]
				}
			}
			a, _ := run(x, g.When, m.Regs, w)
			b, _ := run(x, g.When, m2.Regs, w2)
			if a != b {
				t.Errorf("%s is %v, and %v with other numbers of what it does not read", written(x.Code[g.When.From:g.When.To]), a, b)
			}
			if w != w2 {
				fields++
			}
			if !slices.Equal(m.Regs, m2.Regs) {
				registers++
			}
		}
	}
	if fields < 1000 || registers < 500 {
		t.Errorf("%d times other fields, %d times other registers", fields, registers)
	}
}

// A table fits together: its spans lie one behind the other and fill the code; its jumps go on within their span; all of Consts is named, in its order.
func TestTablesFitTogether(t *testing.T) {
	for _, s := range fitting(800000, 600) {
		x := tableOf(t, s)
		next := 0
		follows := func(at api.Span) {
			if at == (api.Span{}) {
				return
			}
			if at.From != next || at.To <= at.From {
				t.Errorf("%v stands behind %d", at, next)
			}
			for place, in := range x.Code[at.From:at.To] {
				if in.Kind >= api.InstrAnd && (in.A <= at.From+place+1 || in.A > at.To) {
					t.Errorf("%v at %d of %v leads out of it, or back", in, at.From+place, at)
				}
			}
			next = at.To
		}
		for _, g := range slices.Concat(x.States...) {
			follows(g.When)
			for _, r := range g.Rows {
				follows(r.Side)
				follows(r.Qty)
				follows(r.Price)
				follows(r.Value)
			}
		}
		named := 0
		for _, in := range x.Code {
			if in.Kind == api.InstrConst && in.A > named {
				t.Errorf("%d is named behind %d", in.A, named)
			}
			if in.Kind == api.InstrConst && in.A == named {
				named++
			}
		}
		if next != len(x.Code) || named != len(x.Consts) {
			t.Errorf("the spans end with %d of %d; %d of %d constants are named", next, len(x.Code), named, len(x.Consts))
		}
	}
}
