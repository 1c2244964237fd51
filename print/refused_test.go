package print_test

import (
	"testing"

	"tripwire/api"
)

// wrongNodes may not be, each for another reason.
func wrongNodes() []api.Node {
	a := reg("a")
	return []api.Node{
		{}, {At: 3}, {Kind: 10}, {Kind: 255}, {Kind: api.NodeLit}, {Name: "a"}, {Kids: []api.Node{a}},
		lit(0, 1), lit(7, 1), lit(1, -1), lit(2, least), lit(5, 2), lit(5, -1), lit(6, 0), lit(6, 3), lit(255, 0),
		reg(""), reg("bid"), reg("A"), reg("1"), reg("a b"), reg("abcdefghijklmnopq"), reg("true"), reg("_a"), reg("a "), reg("a+b"), reg("-a"),
		field(0), field(7), has(0), has(4), has(5), has(6), has(7),
		unary(0, a), unary(3, a), unary(1), unary(1, a, a), unary(7, a),
		binary(5, a, a), binary(19, a, a), binary(6, a), binary(6, a, a, a), binary(1, a, a), binary(0, a, a), binary(6),
		cond(), cond(a, a), cond(a, a, a, a),
		call(3), call(3, a, a), call(4, a), call(5, a, a, a), call(2, a), call(6, a, a), call(0, a),
		conv(0, a), conv(5, a), conv(6, a), conv(1), conv(1, a, a), conv(255, a),
		{Kind: api.NodeLit, Type: 1, Name: "a"}, {Kind: api.NodeLit, Type: 1, Oper: 1}, {Kind: api.NodeLit, Type: 1, Field: 1}, {Kind: api.NodeLit, Type: 1, Kids: []api.Node{a}},
		{Kind: api.NodeReg, Name: "a", N: 1}, {Kind: api.NodeReg, Name: "a", Type: 1}, {Kind: api.NodeReg, Name: "a", Kids: []api.Node{a}},
		{Kind: api.NodeField, Field: 1, Name: "a"}, {Kind: api.NodeHas, Field: 1, N: -1}, {Kind: api.NodeUnary, Oper: 1, Type: 1, Kids: []api.Node{a}},
		{Kind: api.NodeBinary, Oper: 6, Name: "a", Kids: []api.Node{a, a}}, {Kind: api.NodeCond, Oper: 6, Kids: []api.Node{a, a, a}},
		{Kind: api.NodeCall, Oper: 3, Type: 1, Kids: []api.Node{a}}, {Kind: api.NodeConv, Type: 1, Oper: 3, Kids: []api.Node{a}},
	}
}

func deepNode() api.Node {
	return grown(reg("a"), deepest+1, func(n api.Node) api.Node { return unary(1, n) })
}

// longNode has a text that is too long, or so its text would be with something wrong at its end.
func longNode(last api.Node) api.Node {
	return binary(6, row(6, reg(longName), reg(longName), 300), last)
}

// within are expressions in which another one stands.
func within(n api.Node) []api.Node {
	a := reg("a")
	return []api.Node{n, unary(2, n), binary(6, n, a), binary(8, a, n), cond(n, a, a), cond(a, n, a), cond(a, a, n), call(3, n), call(4, n, a), call(5, a, n), conv(1, n)}
}

func TestExpressionsThatMayNotBe(t *testing.T) {
	for _, n := range wrongNodes() {
		for _, x := range within(n) {
			expectNoExpr(t, x, wrongForm)
		}
		// Too long besides, too deep besides, and both.
		expectNoExpr(t, longNode(n), wrongForm)
		expectNoExpr(t, binary(7, n, longNode(reg("a"))), wrongForm)
		expectNoExpr(t, binary(7, deepNode(), n), wrongForm)
		expectNoExpr(t, binary(7, n, deepNode()), wrongForm)
		expectNoExpr(t, longNode(binary(7, deepNode(), n)), wrongForm)
	}
	expectNoExpr(t, deepNode(), tooDeep)
	expectNoExpr(t, longNode(deepNode()), tooDeep)
	expectNoExpr(t, longNode(reg("a")), tooLong)
	expectNoExpr(t, grown(reg("a"), 60000, func(n api.Node) api.Node { return unary(1, n) }), tooDeep)
	expectNoExpr(t, grown(reg(""), 60000, func(n api.Node) api.Node { return unary(1, n) }), wrongForm)
}

// placesOfNodes are strategies with an expression at each of their places.
func placesOfNodes(n api.Node) []api.Strategy {
	a := reg("a")
	return []api.Strategy{
		ruled(n, halt()),
		ruled(a, halt(), set("x", n)),
		ruled(a, api.Do{Kind: api.DoSubmit, Order: 1, Side: n, Qty: a, Price: a}),
		ruled(a, api.Do{Kind: api.DoSubmit, Order: 2, Side: a, Qty: n}),
		ruled(a, api.Do{Kind: api.DoSubmit, Order: 5, Side: a, Qty: a, Price: n, Name: "o"}),
		ruled(a, api.Do{Kind: api.DoAmend, Name: "o", Qty: n, Price: a}),
		ruled(a, api.Do{Kind: api.DoAmend, Name: "o", Qty: a, Price: n}),
	}
}

func TestStrategiesWithExpressionsThatMayNotBe(t *testing.T) {
	for _, n := range wrongNodes() {
		for _, s := range placesOfNodes(n) {
			expectNoStrategy(t, s, wrongForm)
		}
		expectNoStrategy(t, keeping(api.Reg{Name: "n", Type: 1, Init: n}), wrongForm)
	}
	for _, s := range placesOfNodes(deepNode()) {
		expectNoStrategy(t, s, tooDeep)
	}
	for _, s := range placesOfNodes(longNode(reg("a"))) {
		expectNoStrategy(t, s, tooLong)
	}
	for _, n := range []api.Node{reg("a"), field(1), has(1), unary(1, unary(1, num(1))), unary(2, num(1)), unary(1, lit(5, 1)), unary(1, lit(6, 1)), unary(1, reg("a")), binary(6, num(1), num(2)), call(3, num(1)), conv(1, num(1)), cond(num(1), num(1), num(1)), deepNode(), longNode(num(1))} {
		expectNoStrategy(t, keeping(api.Reg{Name: "n", Type: 1, Init: n}), wrongForm)
	}
}

// wrongDos may not be.
func wrongDos() []api.Do {
	a := reg("a")
	submit := api.Do{Kind: api.DoSubmit, Order: 1, Side: a, Qty: a, Price: a}
	var all []api.Do
	but := func(d api.Do, change func(d *api.Do)) {
		change(&d)
		all = append(all, d)
	}
	but(halt(), func(d *api.Do) { d.Kind = 0 })
	but(halt(), func(d *api.Do) { d.Kind = 7 })
	but(halt(), func(d *api.Do) { d.Kind = 255 })
	but(halt(), func(d *api.Do) { d.Name = "a" })
	but(halt(), func(d *api.Do) { d.Value = a })
	but(halt(), func(d *api.Do) { d.Order = 1 })
	but(submit, func(d *api.Do) { d.Order = 0 })
	but(submit, func(d *api.Do) { d.Order = 6 })
	but(submit, func(d *api.Do) { d.Order = api.Market })
	but(submit, func(d *api.Do) { d.Price = api.Node{} })
	but(submit, func(d *api.Do) { d.Side = api.Node{} })
	but(submit, func(d *api.Do) { d.Qty = api.Node{} })
	but(submit, func(d *api.Do) { d.Value = a })
	but(submit, func(d *api.Do) { d.Name = "bid" })
	for _, kind := range []api.DoKind{api.DoCancel, api.DoGoto} {
		for _, name := range []string{"", "bid", "A", longName + "q"} {
			all = append(all, api.Do{Kind: kind, Name: name})
		}
		all = append(all, api.Do{Kind: kind, Name: "a", Qty: a}, api.Do{Kind: kind, Name: "a", Side: a})
	}
	return append(all, set("", a), set("now", a), set("a", api.Node{}), api.Do{Kind: api.DoSet, Name: "a", Value: a, Price: a},
		api.Do{Kind: api.DoAmend, Qty: a, Price: a}, api.Do{Kind: api.DoAmend, Name: "a", Qty: a}, api.Do{Kind: api.DoAmend, Name: "a", Price: a}, api.Do{Kind: api.DoAmend, Name: "a", Qty: a, Price: a, Order: 1})
}

func TestStrategiesThatMayNotBe(t *testing.T) {
	for _, d := range wrongDos() {
		expectNoStrategy(t, ruled(has(1), d), wrongForm)
		expectNoStrategy(t, ruled(has(1), halt(), d, halt()), wrongForm)
		expectNoStrategy(t, ruled(longNode(has(1)), halt(), d), wrongForm)
	}
	expectNoStrategy(t, api.Strategy{}, wrongForm)
	expectNoStrategy(t, api.Strategy{Name: "s"}, wrongForm)
	expectNoStrategy(t, ruled(has(1)), wrongForm)
	for _, name := range []string{"", "bid", "strategy", "A", "a b", " a", "1a", "a\n", longName + "q", "a{"} {
		s := smallest()
		s.Name = name
		expectNoStrategy(t, s, wrongForm)
		s = smallest()
		s.States[0].Name = name
		expectNoStrategy(t, s, wrongForm)
		s = smallest()
		s.Slots = []api.Slot{{Name: name}}
		expectNoStrategy(t, s, wrongForm)
		expectNoStrategy(t, keeping(api.Reg{Name: name, Type: 1, Init: num(1)}), wrongForm)
	}
	for _, to := range []api.Type{0, 7, 255} {
		expectNoStrategy(t, keeping(api.Reg{Name: "n", Type: to, Init: num(1)}), wrongForm)
	}
}

// Several wrong at once: the first part that is wrong is told, and ahead of a text that would be too long.
func TestSeveralWrongAtOnce(t *testing.T) {
	long := longNode(has(1))
	// Too many slots behind a wrong register, and ahead of a wrong state.
	s := keeping(api.Reg{Name: "n", Type: 9, Init: num(1)})
	s.Slots = times(5, api.Slot{Name: "o"})
	expectNoStrategy(t, s, wrongForm)
	s.Regs = nil
	s.States[0].Name = ""
	expectNoStrategy(t, s, tooMany)
	// Too deep ahead of too many things done, and behind too many rules.
	s = ruled(deepNode(), times(9, halt())...)
	expectNoStrategy(t, s, tooDeep)
	s.States[0].Rules = times(13, s.States[0].Rules[0])
	expectNoStrategy(t, s, tooMany)
	s = ruled(long, times(9, halt())...)
	expectNoStrategy(t, s, tooMany)
	s = ruled(long, set("a", deepNode()), set("", num(1)))
	expectNoStrategy(t, s, tooDeep)
	s = ruled(long, set("", deepNode()))
	expectNoStrategy(t, s, wrongForm)
	s = ruled(long, halt())
	expectNoStrategy(t, s, tooLong)
	s.States = times(13, s.States[0])
	expectNoStrategy(t, s, tooMany)
	s.Name = ""
	expectNoStrategy(t, s, wrongForm)
}
