package mean_test

import (
	"testing"

	"tripwire/api"
)

// Rows without brackets are no deeper for their length: they may be as long as anything may be nested.

const long = 60000

func TestLongRows(t *testing.T) {
	sum := row(api.OperAdd, reg("i"), num(3), long)
	expectValue(t, full(), sum, with("i", -7), seen(), 3*long-7)
	expectNoValue(t, full(), sum, with("i", greatest-10), seen(), over)
	expectNoValue(t, full(), row(api.OperSub, faulty(zero), num(1), long), begun(), seen(), zero)
	asked := row(api.OperAnd, reg("b"), has(1), long)
	expectValue(t, full(), asked, begun(), seen(), 1)
	expectValue(t, full(), asked, with("b", 0), seen(), 0)
	expectValue(t, full(), asked, begun(), api.Snap{}, 0)
	or := row(api.OperOr, has(1), reg("b"), long)
	s := full(rule(unary(api.OperNot, or), halt()), rule(or, set("i", sum), set("b", asked), market("o", buy(), row(api.OperAdd, reg("q"), lots(), long))))
	m := with("i", 3*long+1)
	expectFires(t, s, begun(), seen(), fires(1, api.Action{Act: api.ActSubmit, Kind: api.Market, Side: api.Buy, Qty: 2*long + 1, Slot: 1}), m)
	expectStays(t, s, with("i", greatest), seen(), faults(over))
}

// As deep as may be, in each node that goes deeper.
func TestAsDeepAsMayBe(t *testing.T) {
	for _, x := range []struct {
		layer  func(n api.Node) api.Node
		layers int
		want   int64
	}{
		{func(n api.Node) api.Node { return unary(api.OperNeg, n) }, deepest, 1},
		{func(n api.Node) api.Node { return call(api.OperAbs, n) }, deepest, 1},
		{func(n api.Node) api.Node { return conv(tInt, n) }, deepest, 1},
		{func(n api.Node) api.Node { return call(api.OperMax, n, num(5)) }, deepest, 5},
		{func(n api.Node) api.Node { return binary(api.OperSub, num(1), n) }, deepest + 1, 0},
		{func(n api.Node) api.Node { return binary(api.OperMul, num(2), n) }, deepest + 1, 2 << deepest},
		{func(n api.Node) api.Node { return cond(has(1), n, num(0)) }, deepest, 1},
		{func(n api.Node) api.Node { return cond(unary(api.OperNot, has(1)), faulty(zero), n) }, deepest, 1},
	} {
		n := grown(reg("i"), x.layers, x.layer)
		expectValue(t, full(), n, begun(), seen(), x.want)
		expectFires(t, doing(set("i", n)), begun(), seen(), fires(0), with("i", x.want))
		expectNoValue(t, full(), grown(n, 1, x.layer), begun(), seen(), tooDeep)
	}
}

// As much of everything as may be: every rule of every state does as many things as it may.
func TestAsMuchAsMayBe(t *testing.T) {
	s := smallest()
	s.States = nil
	for k := range 12 {
		s.Regs = append(s.Regs, api.Reg{Name: "r" + string(rune('a'+k)), Type: tInt, Init: num(int64(k))})
	}
	for k := range 4 {
		s.Slots = append(s.Slots, api.Slot{Name: "o" + string(rune('a'+k))})
	}
	for k := range 12 {
		x := api.State{Name: "s" + string(rune('a'+k))}
		for e := range 12 {
			dos := append(times(7, market("o"+string(rune('a'+e%4)), buy(), conv(tQty, reg(s.Regs[k].Name)))), goTo("s"+string(rune('a'+(k+e)%12))))
			x.Rules = append(x.Rules, rule(binary(api.OperEq, reg(s.Regs[(k+1)%12].Name), num(int64(e))), dos...))
		}
		s.States = append(s.States, x)
	}
	for k := range 12 {
		for e := range 12 {
			m := mode(k, times(12, int64(99))...)
			m.Regs[k], m.Regs[(k+1)%12] = int64(1000+k), int64(e)
			a := api.Action{Act: api.ActSubmit, Kind: api.Market, Side: api.Buy, Qty: int64(1000 + k), Slot: 1 + e%4}
			expectFires(t, s, m, api.Snap{}, fires(e, times(7, a)...), mode((k+e)%12, m.Regs...))
		}
		expectStays(t, s, mode(k, times(12, int64(99))...), api.Snap{}, nothing())
	}
}
