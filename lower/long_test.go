package lower_test

import (
	"testing"

	"tripwire/api"
	"tripwire/lower"
	"tripwire/tree"
)

// Rows without brackets are no deeper for their length: they may be as long as anything may be nested.

const long = 60000

func TestLongRows(t *testing.T) {
	expectFold(t, row(api.OperAdd, num(5), num(3), long), num(3*long+5))
	expectFold(t, row(api.OperSub, num(3*long), num(3), long), num(0))
	expectFold(t, row(api.OperAnd, truly(), truly(), long), truly())
	expectFold(t, row(api.OperAnd, truly(), reg("b"), 1), reg("b"))
	expectFold(t, row(api.OperOr, truly(), reg("b"), long), truly())
	expectFold(t, row(api.OperAnd, falsely(), faulty(tBool)[0], long), falsely())
	expectStays(t, row(api.OperAdd, reg("i"), num(3), long))
	expectStays(t, row(api.OperOr, reg("b"), falsely(), long))
	expectStays(t, row(api.OperAdd, by9223(tInt), num(1), long))
	// Below 0 it stays from there on.
	n := lower.Fold(row(api.OperSub, num(long), num(1), long+10))
	if size := tree.Size(n); size != 21 {
		t.Errorf("%d nodes are left", size)
	}
	// What may not be comes back as it was, however long.
	bad := row(api.OperAdd, api.Node{Kind: 77}, num(1), long)
	if x := lower.Fold(bad); !sameNode(x, bad) {
		t.Errorf("Fold(%s) is %s", short(bad), short(x))
	}
	nested := grown(num(1), long, func(n api.Node) api.Node { return unary(api.OperNeg, n) })
	if x := lower.Fold(nested); !sameNode(x, nested) {
		t.Errorf("Fold(%s) is %s", short(nested), short(x))
	}
}

// As deep as may be, in each node that goes deeper; one deeper nothing is folded.
func TestAsDeepAsMayBe(t *testing.T) {
	for _, x := range []struct {
		layer  func(n api.Node) api.Node
		layers int
		first  api.Node
		want   api.Node
	}{
		{func(n api.Node) api.Node { return unary(api.OperNot, n) }, deepest, truly(), truly()},
		{func(n api.Node) api.Node { return call(api.OperAbs, n) }, deepest, num(3), num(3)},
		{func(n api.Node) api.Node { return conv(tQty, n) }, deepest, num(3), lit(tQty, 3)},
		{func(n api.Node) api.Node { return call(api.OperMax, n, num(5)) }, deepest, num(3), num(5)},
		{func(n api.Node) api.Node { return binary(api.OperMul, num(2), n) }, deepest + 1, num(1), num(2 << deepest)},
		{func(n api.Node) api.Node { return cond(truly(), n, num(0)) }, deepest, reg("i"), reg("i")},
		{func(n api.Node) api.Node { return cond(falsely(), faulty(tInt)[0], n) }, deepest, reg("i"), reg("i")},
		{func(n api.Node) api.Node { return binary(api.OperAnd, truly(), n) }, deepest, reg("b"), reg("b")},
	} {
		n := grown(x.first, x.layers, x.layer)
		expectFold(t, n, x.want)
		deeper := grown(n, 30, x.layer)
		if is := lower.Fold(deeper); !sameNode(is, deeper) {
			t.Errorf("Fold(%s) is %s", short(deeper), short(is))
		}
	}
	// The last step is one of them.
	not := grown(truly(), deepest, func(n api.Node) api.Node { return unary(api.OperNot, n) })
	expectFold(t, not, truly())
	expectStays(t, unary(api.OperNot, not))
}

// As much of everything as may be: every rule of every state does as many things as it may.
func TestAsMuchAsMayBe(t *testing.T) {
	s := smallest()
	s.States = nil
	name := func(of string, k int) string { return of + string(rune('a'+k)) }
	for k := range 12 {
		s.Regs = append(s.Regs, api.Reg{Name: name("r", k), Type: tInt, Init: num(int64(k))})
	}
	for k := range 4 {
		s.Slots = append(s.Slots, api.Slot{Name: name("o", k)})
	}
	for k := range 12 {
		x := api.State{Name: name("s", k)}
		for e := range 12 {
			dos := append(times(7, market(name("o", e%4), buy(), conv(tQty, reg(s.Regs[k].Name)))), goTo(name("s", (k+e)%12)))
			x.Rules = append(x.Rules, rule(binary(api.OperEq, reg(s.Regs[(k+1)%12].Name), num(int64(e))), dos...))
		}
		s.States = append(s.States, x)
	}
	x := tableOf(t, s)
	if !sameTable(x, modelTable(s)) || len(x.Code) != 144*17 || x.Slots != 4 || len(x.Regs) != 12 || len(x.Consts) != 12 {
		t.Errorf("%d instructions, %d slots, %d registers, %v", len(x.Code), x.Slots, len(x.Regs), x.Consts)
	}
	for k, guards := range x.States {
		for e, g := range guards {
			last := g.Rows[7]
			if g.Regs != 1<<((k+1)%12) || g.Fields != 0 || last != (api.Row{Kind: api.DoGoto, Index: (k + e) % 12}) || g.Rows[0].Index != 1+e%4 || g.When != span(17*(12*k+e), 17*(12*k+e)+3) {
				t.Errorf("%d, %d: %+v", k, e, g)
			}
		}
	}
}
