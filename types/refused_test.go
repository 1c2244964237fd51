package types_test

import (
	"testing"

	"tripwire/api"
	"tripwire/tree"
)

// wrongNodes may not be, each for another reason.
func wrongNodes() []api.Node {
	a := reg("i")
	return []api.Node{
		{}, {At: 3}, {Kind: 10}, {Kind: 255}, {Kind: api.NodeLit}, {Name: "i"}, {Kids: []api.Node{a}},
		lit(0, 1), lit(7, 1), lit(1, -1), lit(2, least), lit(5, 2), lit(5, -1), lit(6, 0), lit(6, 3), lit(255, 0),
		reg(""), reg("bid"), reg("A"), reg("1"), reg("a b"), reg(longName + "q"), reg("true"), reg("_a"), reg("i "), reg("-i"),
		field(0), field(7), field(255), has(0), has(4), has(5), has(6), has(7),
		unary(0, a), unary(3, a), unary(1), unary(1, a, a), unary(7, a),
		binary(5, a, a), binary(19, a, a), binary(6, a), binary(6, a, a, a), binary(1, a, a), binary(0, a, a), binary(6),
		cond(), cond(has(1), a), cond(has(1), a, a, a),
		call(3), call(3, a, a), call(4, a), call(5, a, a, a), call(2, a), call(6, a, a), call(0, a),
		conv(0, a), conv(5, a), conv(6, a), conv(1), conv(1, a, a), conv(255, a), conv(1, a, a, a, a, a),
		{Kind: api.NodeLit, Type: 1, Name: "i"}, {Kind: api.NodeLit, Type: 1, Oper: 1}, {Kind: api.NodeLit, Type: 1, Field: 1}, {Kind: api.NodeLit, Type: 1, Kids: []api.Node{a}},
		{Kind: api.NodeReg, Name: "i", N: 1}, {Kind: api.NodeReg, Name: "i", Type: 1}, {Kind: api.NodeReg, Name: "i", Kids: []api.Node{a}},
		{Kind: api.NodeField, Field: 1, Name: "i"}, {Kind: api.NodeHas, Field: 1, N: -1}, {Kind: api.NodeUnary, Oper: 1, Type: 1, Kids: []api.Node{a}},
		{Kind: api.NodeBinary, Oper: 6, Name: "i", Kids: []api.Node{a, a}}, {Kind: api.NodeCond, Oper: 6, Kids: []api.Node{has(1), a, a}},
		{Kind: api.NodeCall, Oper: 3, Type: 1, Kids: []api.Node{a}}, {Kind: api.NodeConv, Type: 1, Oper: 3, Kids: []api.Node{a}},
	}
}

// deepNode is one level too deep, and else fits.
func deepNode() api.Node {
	return grown(reg("i"), deepest+1, func(n api.Node) api.Node { return unary(api.OperNeg, n) })
}

// within are expressions in which another one stands, with things beside it that have no type either.
func within(n api.Node) []api.Node {
	a, z := reg("i"), reg("zz")
	return []api.Node{n, unary(2, n), binary(6, n, a), binary(6, z, n), binary(8, a, n), cond(n, a, a), cond(z, n, a), cond(a, z, n), call(3, n), call(4, n, a), call(5, z, n), conv(1, n)}
}

// What CheckExpr says comes ahead of all else, and is told at the place 0, wherever it is.
func TestExpressionsThatMayNotBe(t *testing.T) {
	s := full()
	for _, n := range wrongNodes() {
		for _, x := range within(at(44, n)) {
			expectNoType(t, s, at(45, x), wrongForm, 0)
			expectNoType(t, api.Strategy{}, at(45, x), wrongForm, 0)
		}
		expectNoType(t, s, binary(7, deepNode(), n), wrongForm, 0)
		expectNoType(t, s, binary(7, n, deepNode()), wrongForm, 0)
	}
	for _, x := range within(numbered(deepNode())) {
		expectNoType(t, s, at(45, x), tooDeep, 0)
	}
	expectNoType(t, s, binary(api.OperAdd, reg("zz"), deepNode()), tooDeep, 0)
	expectType(t, s, deepNode().Kids[0], tInt)
}

// placesOfNodes are strategies with an expression at each of their places; all else fits.
func placesOfNodes(n api.Node) []api.Strategy {
	all := []api.Strategy{full(api.Rule{When: n, Dos: []api.Do{halt()}})}
	for _, p := range partsOfDos() {
		all = append(all, doing(p.with(n)))
	}
	return all
}

// expectRefused tells whether a strategy is refused by tree's number, at the place 0, whatever else is wrong with it.
func expectRefused(t *testing.T, s api.Strategy, no api.Errno) {
	t.Helper()
	if is := tree.Check(s); is != no {
		t.Errorf("tree says %d of %s; want %d", is, short(s), no)
	}
	expectWrong(t, s, no, 0)
	s = copied(s)
	s.Regs = append([]api.Reg{{Name: "i", Type: tInt, Init: lots(), At: 7}}, s.Regs...)
	s.Slots = append([]api.Slot{{Name: "u", At: 8}}, s.Slots...)
	expectWrong(t, s, no, 0)
}

func TestStrategiesWithExpressionsThatMayNotBe(t *testing.T) {
	for _, n := range wrongNodes() {
		for _, s := range placesOfNodes(at(44, n)) {
			expectRefused(t, s, wrongForm)
		}
		s := full()
		s.Regs[2].Init = at(44, n)
		expectRefused(t, s, wrongForm)
	}
	for _, s := range placesOfNodes(numbered(deepNode())) {
		expectRefused(t, s, tooDeep)
	}
	for _, n := range []api.Node{reg("i"), field(1), has(1), unary(1, unary(1, num(1))), unary(2, lit(tBool, 1)), unary(1, lit(tBool, 1)), unary(1, lit(tSide, 1)), unary(1, reg("i")), binary(6, num(1), num(2)), call(3, num(1)), conv(1, num(1)), cond(has(1), num(1), num(1)), deepNode()} {
		s := full()
		s.Regs[0].Init = at(44, n)
		expectRefused(t, s, wrongForm)
	}
}

func TestStrategiesThatMayNotBe(t *testing.T) {
	expectRefused(t, api.Strategy{}, wrongForm)
	expectRefused(t, api.Strategy{Name: "s"}, wrongForm)
	for _, change := range []func(s *api.Strategy){
		func(s *api.Strategy) { s.Name = "" },
		func(s *api.Strategy) { s.Name = "bid" },
		func(s *api.Strategy) { s.Regs[5].Name = "" },
		func(s *api.Strategy) { s.Regs[5].Name = "Q" },
		func(s *api.Strategy) { s.Regs[5].Type = 0 },
		func(s *api.Strategy) { s.Regs[5].Type = 7 },
		func(s *api.Strategy) { s.Slots[1].Name = "" },
		func(s *api.Strategy) { s.Slots[1].Name = "goto" },
		func(s *api.Strategy) { s.States[1].Name = "" },
		func(s *api.Strategy) { s.States[1].Name = "1" },
		func(s *api.Strategy) { s.States[1].Rules = []api.Rule{{When: has(1)}} },
		func(s *api.Strategy) { s.States = nil },
	} {
		s := doing(halt(), halt())
		change(&s)
		expectRefused(t, s, wrongForm)
	}
	for _, change := range []func(s *api.Strategy){
		func(s *api.Strategy) { s.Regs = times(13, s.Regs[0]) },
		func(s *api.Strategy) { s.Slots = times(5, s.Slots[0]) },
		func(s *api.Strategy) { s.States = times(13, s.States[0]) },
		func(s *api.Strategy) { s.States[0].Rules = times(13, s.States[0].Rules[0]) },
		func(s *api.Strategy) { s.States[0].Rules[0].Dos = times(9, halt()) },
	} {
		s := doing(halt(), halt())
		change(&s)
		expectRefused(t, s, tooMany)
	}
	for _, d := range wrongDos() {
		expectRefused(t, doing(d), wrongForm)
		expectRefused(t, doing(halt(), d, halt()), wrongForm)
		expectRefused(t, doing(cancel("nothing"), d), wrongForm)
	}
}

// wrongDos may not be done.
func wrongDos() []api.Do {
	all := []api.Do{{}, {Kind: 7}, {Kind: 255}, {Kind: api.DoHalt, Name: "o"}, {Kind: api.DoHalt, Value: num(1)}, {Kind: api.DoHalt, Order: 1}}
	but := func(d api.Do, change func(d *api.Do)) {
		change(&d)
		all = append(all, d)
	}
	whole := submit("o", buy(), lots(), price())
	but(whole, func(d *api.Do) { d.Order = 0 })
	but(whole, func(d *api.Do) { d.Order = 6 })
	but(whole, func(d *api.Do) { d.Order = api.Market })
	but(whole, func(d *api.Do) { d.Price = api.Node{} })
	but(whole, func(d *api.Do) { d.Side = api.Node{} })
	but(whole, func(d *api.Do) { d.Qty = api.Node{} })
	but(whole, func(d *api.Do) { d.Value = num(1) })
	but(whole, func(d *api.Do) { d.Name = "bid" })
	for _, name := range []string{"", "bid", "A", longName + "q"} {
		all = append(all, cancel(name), goTo(name), set(name, num(1)), amend(name, lots(), price()))
	}
	return append(all, api.Do{Kind: api.DoCancel, Name: "o", Qty: lots()}, api.Do{Kind: api.DoGoto, Name: "a", Side: buy()},
		set("i", api.Node{}), api.Do{Kind: api.DoSet, Name: "i", Value: num(1), Price: price()},
		amend("o", lots(), api.Node{}), amend("o", api.Node{}, price()), api.Do{Kind: api.DoAmend, Name: "o", Qty: lots(), Price: price(), Order: 1})
}

// Which of tree's errors is tree's to say, and stays so.
func TestSeveralOfTreesErrors(t *testing.T) {
	s := doing(set("i", deepNode()), set("", num(1)))
	expectRefused(t, s, tooDeep)
	s.States = times(13, s.States[0])
	expectRefused(t, s, tooMany)
	s.Name = ""
	expectRefused(t, s, wrongForm)
	s = doing(set("", deepNode()))
	expectRefused(t, s, wrongForm)
	s = full(api.Rule{When: deepNode(), Dos: times(9, halt())})
	expectRefused(t, s, tooDeep)
}
