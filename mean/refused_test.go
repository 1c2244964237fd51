package mean_test

import (
	"testing"

	"tripwire/api"
	"tripwire/parse"
	"tripwire/types"
)

// wrongNodes may not be, each for another reason.
func wrongNodes() []api.Node {
	a := reg("i")
	return []api.Node{
		{}, {At: 3}, {Kind: 10}, {Kind: 255}, {Kind: api.NodeLit}, {Name: "i"}, {Kids: []api.Node{a}},
		lit(0, 1), lit(7, 1), lit(1, -1), lit(2, least), lit(5, 2), lit(5, -1), lit(6, 0), lit(6, 3), lit(255, 0),
		reg(""), reg("bid"), reg("A"), reg("1"), reg("a b"), reg(longName + "q"), reg("true"), reg("_a"), reg("i "), reg("-i"),
		field(0), field(7), field(255), has(0), has(4), has(5), has(6), has(7),
		unary(0, a), unary(3, a), unary(1), unary(1, a, a), unary(7, a),
		binary(5, a, a), binary(19, a, a), binary(6, a), binary(6, a, a, a), binary(1, a, a), binary(0, a, a), binary(6),
		cond(), cond(has(1), a), cond(has(1), a, a, a),
		call(3), call(3, a, a), call(4, a), call(5, a, a, a), call(2, a), call(6, a, a), call(0, a),
		conv(0, a), conv(5, a), conv(6, a), conv(1), conv(1, a, a), conv(255, a), conv(1, a, a, a, a, a),
		{Kind: api.NodeLit, Type: 1, Name: "i"}, {Kind: api.NodeReg, Name: "i", N: 1}, {Kind: api.NodeField, Field: 1, Name: "i"}, {Kind: api.NodeHas, Field: 1, N: -1},
		{Kind: api.NodeCond, Oper: 6, Kids: []api.Node{has(1), a, a}}, {Kind: api.NodeConv, Type: 1, Oper: 3, Kids: []api.Node{a}},
	}
}

// deepNode is one level too deep, and else fits.
func deepNode() api.Node {
	return grown(reg("i"), deepest+1, func(n api.Node) api.Node { return unary(api.OperNeg, n) })
}

// untyped are expressions that may be, of which types.Of tells an error, with full's registers.
func untyped() map[api.Errno][]api.Node {
	z := reg("zz")
	return map[api.Errno][]api.Node{
		none: {z, reg("o"), reg("a"), reg("s"), unary(api.OperNeg, z), binary(api.OperAdd, num(1), z), binary(api.OperAnd, lit(tBool, 0), z), binary(api.OperOr, lit(tBool, 1), z), cond(lit(tBool, 1), num(1), z), cond(z, num(1), lots())},
		fit: {binary(api.OperAdd, num(1), lots()), unary(api.OperNot, num(1)), unary(api.OperNeg, has(1)), conv(tInt, buy()), cond(num(1), num(1), num(1)), cond(has(1), num(1), lots()), binary(api.OperMul, lots(), lots()),
			binary(api.OperAnd, lit(tBool, 0), num(1)), binary(api.OperOr, lit(tBool, 1), num(1)), binary(api.OperLt, buy(), buy()), call(api.OperMin, has(1), has(1)), binary(api.OperEq, num(1), price())},
	}
}

// refused is a strategy that types.Check refuses, and why.
type refused struct {
	s  api.Strategy
	no api.Errno
}

// refusedOfEach are refused for each of chapter 15's errors, and of chapter 12's, at every part that can be wrong.
func refusedOfEach() []refused {
	yes := lit(tBool, 1)
	fine := func(change func(s *api.Strategy)) api.Strategy {
		s := full(rule(yes, cancel("o"), halt()))
		change(&s)
		return s
	}
	second := func(r api.Rule) api.Strategy {
		s := full(rule(yes, halt()))
		s.States[1].Rules = []api.Rule{rule(lit(tBool, 0), halt()), r}
		return s
	}
	return []refused{
		{fine(func(s *api.Strategy) { s.Regs[1].Name = "i" }), twice},
		{fine(func(s *api.Strategy) { s.Slots[1].Name = "o" }), twice},
		{fine(func(s *api.Strategy) { s.States[1].Name = "a" }), twice},
		{full(rule(reg("zz"), halt())), none}, {full(rule(yes, cancel("zz"))), none}, {full(rule(yes, goTo("zz"))), none}, {full(rule(yes, set("zz", num(1)))), none}, {second(rule(yes, amend("i", lots(), price()))), none},
		{fine(func(s *api.Strategy) { s.Regs[0].Init = lots() }), fit},
		{full(rule(num(1), halt())), fit}, {full(rule(yes, set("i", lots()))), fit}, {second(rule(yes, submit("o", buy(), price(), price()))), fit}, {second(rule(yes, set("b", num(1)))), fit}, {second(rule(yes, set("d", num(1)))), fit},
		{full(rule(yes, halt(), halt())), last}, {full(rule(yes, goTo("a"), cancel("o"))), last}, {full(rule(yes, goTo("z"), halt())), last}, {full(rule(yes, halt(), goTo("z"))), last}, {second(rule(yes, goTo("z"), goTo("z"))), last},
		{api.Strategy{}, wrongForm}, {fine(func(s *api.Strategy) { s.Name = "" }), wrongForm}, {fine(func(s *api.Strategy) { s.States = nil }), wrongForm},
		{full(rule(yes)), wrongForm}, {full(rule(api.Node{}, halt())), wrongForm}, {second(rule(yes, api.Do{})), wrongForm}, {fine(func(s *api.Strategy) { s.Regs[0].Init = binary(api.OperAdd, num(1), num(1)) }), wrongForm},
		{fine(func(s *api.Strategy) { s.Regs[2].Type = 7 }), wrongForm}, {fine(func(s *api.Strategy) { s.Regs[4].Init = lit(tBool, 2) }), wrongForm},
		{fine(func(s *api.Strategy) { s.States = times(13, s.States[0]) }), tooMany}, {fine(func(s *api.Strategy) { s.Slots = times(5, s.Slots[0]) }), tooMany}, {fine(func(s *api.Strategy) { s.Regs = times(13, s.Regs[0]) }), tooMany},
		{full(times(13, rule(yes, halt()))...), tooMany}, {full(rule(yes, times(9, cancel("o"))...)), tooMany},
		{full(rule(yes, set("i", deepNode()))), tooDeep}, {second(rule(binary(api.OperEq, deepNode(), num(1)), halt())), tooDeep},
	}
}

// expectRefused tells whether every call refuses a strategy by this number, which stands at the end of types.Check's error; whatever the mode, the snapshot and the expression are.
func expectRefused(t *testing.T, s api.Strategy, want api.Errno) {
	t.Helper()
	if no, _ := parse.Wrong(types.Check(s)); no != want {
		t.Errorf("types says %d of %s; want %d", no, short(s), want)
	}
	expectNoStart(t, s, want)
	for _, m := range []api.Mode{begun(), {}, mode(-1, 1), with("b", 2)} {
		for _, w := range []api.Snap{seen(), {}, {Bid: -1}} {
			for _, n := range []api.Node{num(1), {}, reg("zz"), faulty(zero), deepNode()} {
				expectNoValue(t, s, n, m, w, want)
			}
			expectNoTurn(t, s, m, w, want)
		}
	}
}

func TestStrategiesThatAreRefused(t *testing.T) {
	reached := map[api.Errno]int{}
	for _, x := range refusedOfEach() {
		expectRefused(t, x.s, x.no)
		expectRefused(t, numbered(x.s), x.no)
		reached[x.no]++
	}
	for _, no := range []api.Errno{twice, none, fit, last, wrongForm, tooMany, tooDeep} {
		if reached[no] == 0 {
			t.Errorf("%d was not reached", no)
		}
	}
}

// An error within an expression of the strategy, which types.Check wraps twice, wherever it stands: also in a state that is not at hand, and where no evaluation comes.
func TestStrategiesWithWrongExpressions(t *testing.T) {
	for _, at := range []func(n api.Node) api.Rule{
		func(n api.Node) api.Rule { return rule(n, halt()) },
		func(n api.Node) api.Rule { return rule(lit(tBool, 0), submit("o", n, lots(), price())) },
		func(n api.Node) api.Rule { return rule(lit(tBool, 0), market("", buy(), n)) },
		func(n api.Node) api.Rule { return rule(lit(tBool, 0), amend("o", lots(), n)) },
		func(n api.Node) api.Rule { return rule(lit(tBool, 0), set("t", n)) },
	} {
		for state := range 2 {
			laid := func(n api.Node) api.Strategy {
				s := full(rule(lit(tBool, 1), halt()))
				s.States[state].Rules = append(s.States[state].Rules, at(n))
				return s
			}
			for _, n := range wrongNodes() {
				expectNoStart(t, laid(n), wrongForm)
				expectNoTurn(t, laid(n), begun(), seen(), wrongForm)
			}
			for no, all := range untyped() {
				for _, n := range all {
					expectRefused(t, laid(n), no)
				}
			}
			expectRefused(t, laid(deepNode()), tooDeep)
		}
	}
}

// Expressions that types.Of refuses, each by its own number.
func TestExpressionsThatAreRefused(t *testing.T) {
	for _, n := range wrongNodes() {
		expectNoValue(t, full(), n, begun(), seen(), wrongForm)
		for _, x := range []api.Node{unary(1, n), binary(6, num(1), n), binary(17, lit(tBool, 0), n), cond(lit(tBool, 1), num(1), n), binary(6, reg("zz"), n), binary(6, deepNode(), n)} {
			expectNoValue(t, full(), x, begun(), seen(), wrongForm)
		}
	}
	for no, all := range untyped() {
		for _, n := range all {
			expectNoValue(t, full(), n, begun(), seen(), no)
			expectNoValue(t, full(), numbered(n), begun(), api.Snap{}, no)
		}
	}
	expectNoValue(t, full(), deepNode(), begun(), seen(), tooDeep)
	expectNoValue(t, full(), binary(api.OperAdd, reg("zz"), deepNode()), begun(), seen(), tooDeep)
	expectValue(t, full(), deepNode().Kids[0], begun(), seen(), 1)
	// What is wrong with an expression comes ahead of its faults, wherever these are met.
	expectNoValue(t, full(), binary(api.OperAdd, faulty(zero), reg("zz")), begun(), api.Snap{}, none)
	expectNoValue(t, full(), binary(api.OperAdd, faulty(absent), lots()), begun(), api.Snap{}, fit)
	// An expression's type may be any.
	for to := tInt; to <= tSide; to++ {
		expectValue(t, full(), lit(to, 1), begun(), seen(), 1)
	}
	// Without registers no name stands for anything.
	expectNoValue(t, smallest(), reg("i"), mode(0), seen(), none)
}

func TestSnapshotsThatMayNotBe(t *testing.T) {
	s := full(rule(lit(tBool, 1), halt()))
	for _, w := range []api.Snap{
		{Bid: -1}, {Ask: -1}, {Last: -1}, {Volume: -1}, {Now: -1}, {Open: -1}, {Bid: api.MaxPrice + 1}, {Ask: api.MaxPrice + 1}, {Last: api.MaxPrice + 1},
		{Volume: api.MaxVolume + 1}, {Now: api.MaxTime + 1}, {Open: api.MaxOpen + 1}, {Bid: least}, {Open: greatest}, {Bid: 1, Ask: 2, Last: 3, Volume: 4, Now: 5, Open: -6},
	} {
		for _, n := range []api.Node{num(1), field(1), has(1), reg("zz"), {}, deepNode(), faulty(zero)} {
			expectNoValue(t, s, n, begun(), w, snapRange)
		}
		expectNoTurn(t, s, begun(), w, snapRange)
		expectNoTurn(t, full(), begun(), w, snapRange)
	}
	// A bid above what is asked is no snapshot's fault.
	expectValue(t, s, field(1), begun(), api.Snap{Bid: api.MaxPrice, Ask: 1}, api.MaxPrice)
	expectStays(t, s, begun(), api.Snap{Bid: api.MaxPrice, Ask: api.MaxPrice, Last: api.MaxPrice, Volume: api.MaxVolume, Now: api.MaxTime, Open: api.MaxOpen}, halts(0))
}

// Several wrong at once, mended one after the other: the strategy, the mode, the snapshot, the expression, its fault.
func TestSeveralWrongAtOnce(t *testing.T) {
	bad := func() api.Strategy { return full(rule(reg("zz"), halt())) }
	good := func() api.Strategy { return full(rule(faultyOf(tBool, zero), halt())) }
	for _, m := range []api.Mode{mode(7), with("d", 0), mode(-1, begun().Regs...)} {
		for _, w := range []api.Snap{{Bid: -1}, {}} {
			for _, n := range []api.Node{{}, reg("zz"), lots(), deepNode(), faulty(over)} {
				expectNoValue(t, bad(), n, m, w, none)
				expectNoValue(t, good(), n, m, w, noMode)
			}
			expectNoTurn(t, bad(), m, w, none)
			expectNoTurn(t, good(), m, w, noMode)
		}
	}
	expectNoTurn(t, good(), begun(), api.Snap{Bid: -1}, snapRange)
	expectStays(t, good(), begun(), api.Snap{}, faults(zero))
	expectNoValue(t, good(), reg("zz"), begun(), api.Snap{Bid: -1}, snapRange)
	expectNoValue(t, good(), binary(api.OperAdd, faulty(over), reg("zz")), begun(), api.Snap{}, none)
	expectNoValue(t, good(), binary(api.OperAdd, faulty(over), reg("i")), begun(), api.Snap{}, over)
	expectValue(t, good(), binary(api.OperAdd, num(1), reg("i")), begun(), api.Snap{}, 2)
	// tree's errors ahead of types'.
	s := bad()
	s.Name = ""
	expectRefused(t, s, wrongForm)
}
