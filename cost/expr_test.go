package cost_test

import (
	"testing"

	"tripwire/api"
)

// leavesOfEach are nodes without kids, of each kind and of all that they may have.
func leavesOfEach() []api.Node {
	all := []api.Node{lit(tBool, 0), lit(tBool, 1), lit(tSide, 1), lit(tSide, 2), reg("a"), reg("zz"), reg(longName)}
	for to := tInt; to <= tTime; to++ {
		all = append(all, lit(to, 0), lit(to, 1), lit(to, 500), lit(to, greatest))
	}
	for f := api.FieldBid; f <= 6; f++ {
		all = append(all, field(f))
	}
	return append(all, has(1), has(2), has(3))
}

// weighing is an expression of this weight; its types need not fit.
func weighing(weight int) api.Node {
	if weight%2 == 0 {
		return unary(api.OperNeg, weighing(weight-1))
	}
	return row(api.OperAdd, reg("a"), num(1), weight/2)
}

func TestNodesWithoutKids(t *testing.T) {
	for _, n := range leavesOfEach() {
		expectWeight(t, n, 1)
		expectWeight(t, at(-7, n), 1)
	}
}

// Expressions of known weights weigh what they are said to: others below are made of them.
func TestWeighing(t *testing.T) {
	for w := 1; w < 30; w++ {
		expectWeight(t, weighing(w), w)
	}
}

func TestNodesWithOneKid(t *testing.T) {
	for w := 1; w < 12; w++ {
		n := weighing(w)
		for _, x := range []api.Node{unary(api.OperNeg, n), unary(api.OperNot, n), call(api.OperAbs, n)} {
			expectWeight(t, x, w+1)
		}
		for to := tInt; to <= tTime; to++ {
			expectWeight(t, conv(to, n), w)
		}
	}
	for _, leaf := range leavesOfEach() {
		expectWeight(t, unary(api.OperNeg, leaf), 2)
		expectWeight(t, unary(api.OperNot, leaf), 2)
		expectWeight(t, call(api.OperAbs, leaf), 2)
		expectWeight(t, conv(tInt, leaf), 1)
	}
}

func TestNodesWithTwoKids(t *testing.T) {
	for o := api.OperMin; o <= api.OperOr; o++ {
		for a := 1; a < 8; a++ {
			for b := 1; b < 8; b++ {
				expectWeight(t, oper(o, weighing(a), weighing(b)), a+b+1)
			}
		}
	}
}

// Of a condition's second and third kid the heavier one counts, whichever that is, and 2 besides; its first one always does.
func TestConditions(t *testing.T) {
	for a := 1; a < 8; a++ {
		for b := 1; b < 8; b++ {
			for c := 1; c < 8; c++ {
				expectWeight(t, cond(weighing(a), weighing(b), weighing(c)), a+max(b, c)+2)
			}
		}
	}
	expectWeight(t, cond(weighing(3), weighing(9), weighing(4)), 14)
	expectWeight(t, cond(weighing(3), weighing(4), weighing(9)), 14)
	expectWeight(t, cond(weighing(3), weighing(9), weighing(9)), 14)
}

func TestConditionsWithinConditions(t *testing.T) {
	small := cond(has(1), num(1), num(2))
	expectWeight(t, small, 4)
	expectWeight(t, cond(small, num(1), num(1)), 7)
	expectWeight(t, cond(has(1), small, num(1)), 7)
	expectWeight(t, cond(has(1), num(1), small), 7)
	expectWeight(t, cond(has(1), small, small), 7)
	expectWeight(t, cond(small, small, small), 10)
	expectWeight(t, cond(has(1), weighing(5), small), 8)
	expectWeight(t, cond(has(1), small, weighing(5)), 8)
	// Each layer has twice as many nodes, and 3 steps more.
	n := num(1)
	for k := range 15 {
		expectWeight(t, n, 1+3*k)
		n = cond(has(1), n, n)
	}
}

// Conversions weigh nothing, wherever they stand, and however many.
func TestConversions(t *testing.T) {
	layers := []func(n api.Node) api.Node{
		func(n api.Node) api.Node { return n },
		func(n api.Node) api.Node { return conv(tInt, n) },
		func(n api.Node) api.Node { return conv(tTime, conv(tQty, conv(tPrice, n))) },
	}
	for _, above := range layers {
		for _, below := range layers {
			x := func(w int) api.Node { return below(weighing(w)) }
			expectWeight(t, above(below(reg("a"))), 1)
			expectWeight(t, above(unary(api.OperNeg, x(4))), 5)
			expectWeight(t, above(call(api.OperAbs, x(4))), 5)
			expectWeight(t, above(call(api.OperMax, x(4), x(6))), 11)
			expectWeight(t, above(binary(api.OperMul, x(2), x(3))), 6)
			expectWeight(t, above(cond(x(1), x(2), x(3))), 6)
			expectWeight(t, above(cond(x(1), x(5), weighing(4))), 8)
			expectWeight(t, above(cond(x(1), weighing(4), x(5))), 8)
		}
	}
	expectWeight(t, grown(num(1), deepest, func(n api.Node) api.Node { return conv(tInt, n) }), 1)
}

// Nothing is asked of names and types: what fits nothing has a weight as well.
func TestTypesDoNotMatter(t *testing.T) {
	expectWeight(t, binary(api.OperAdd, lit(tBool, 1), lit(tSide, 2)), 3)
	expectWeight(t, cond(num(1), lots(), buy()), 4)
	expectWeight(t, unary(api.OperNot, reg("nothing")), 2)
	expectWeight(t, conv(tInt, has(1)), 1)
}

// An expression that is too deep has a weight; one of which a node may not be has none, however deep it is.
func TestExpressionsThatMayNotBe(t *testing.T) {
	for _, n := range wrongNodes() {
		for _, x := range within(at(44, n)) {
			expectWeight(t, at(45, x), 0)
		}
		expectWeight(t, binary(api.OperSub, deepNode(), n), 0)
		expectWeight(t, binary(api.OperSub, n, deepNode()), 0)
		expectWeight(t, grown(n, deepest+5, func(x api.Node) api.Node { return conv(tInt, x) }), 0)
	}
	for depth := range 3 * deepest {
		expectWeight(t, grown(num(1), depth, func(n api.Node) api.Node { return unary(api.OperNeg, n) }), depth+1)
		expectWeight(t, grown(num(1), depth, func(n api.Node) api.Node { return call(api.OperMin, num(1), n) }), 2*depth+1)
		expectWeight(t, grown(num(1), depth, func(n api.Node) api.Node { return binary(api.OperSub, num(1), n) }), 2*depth+1)
		expectWeight(t, grown(num(1), depth, func(n api.Node) api.Node { return cond(has(1), num(1), n) }), 3*depth+1)
		expectWeight(t, grown(num(1), depth, func(n api.Node) api.Node { return cond(has(1), n, num(1)) }), 3*depth+1)
		expectWeight(t, grown(num(1), depth, func(n api.Node) api.Node { return conv(tQty, n) }), 1)
	}
	for k, want := range map[int]int{0: 26, 1: 27, 2: 27, 3: 28} {
		expectWeight(t, []api.Node{deepNode(), unary(2, deepNode()), call(3, deepNode()), binary(6, deepNode(), num(1))}[k], want)
	}
}

// wrongNodes may not be, each for another reason.
func wrongNodes() []api.Node {
	a := reg("i")
	return []api.Node{
		{}, {At: 3}, {Kind: 10}, {Kind: 255}, {Kind: api.NodeLit}, {Name: "i"}, {Kids: []api.Node{a}},
		lit(0, 1), lit(7, 1), lit(1, -1), lit(2, least), lit(5, 2), lit(5, -1), lit(6, 0), lit(6, 3), lit(255, 0),
		reg(""), reg("bid"), reg("A"), reg("1"), reg("a b"), reg(longName + "q"), reg("true"), reg("_a"), reg("i "), reg("-i"),
		field(0), field(7), field(255), has(0), has(4), has(5), has(6), has(7),
		unary(0, a), unary(3, a), unary(1), unary(1, a, a), unary(7, a),
		binary(5, a, a), binary(19, a, a), binary(6, a), binary(6, a, a, a), binary(1, a, a), binary(0, a, a), binary(6),
		cond(), cond(has(1), a), cond(has(1), a, a, a),
		call(3), call(3, a, a), call(4, a), call(5, a, a, a), call(2, a), call(6, a, a), call(0, a),
		conv(0, a), conv(5, a), conv(6, a), conv(1), conv(1, a, a), conv(255, a), conv(1, a, a, a, a, a),
		{Kind: api.NodeLit, Type: 1, Name: "i"}, {Kind: api.NodeLit, Type: 1, Oper: 1}, {Kind: api.NodeLit, Type: 1, Field: 1}, {Kind: api.NodeLit, Type: 1, Kids: []api.Node{a}},
		{Kind: api.NodeReg, Name: "i", N: 1}, {Kind: api.NodeReg, Name: "i", Type: 1}, {Kind: api.NodeReg, Name: "i", Kids: []api.Node{a}},
		{Kind: api.NodeField, Field: 1, Name: "i"}, {Kind: api.NodeHas, Field: 1, N: -1}, {Kind: api.NodeUnary, Oper: 1, Type: 1, Kids: []api.Node{a}},
		{Kind: api.NodeBinary, Oper: 6, Name: "i", Kids: []api.Node{a, a}}, {Kind: api.NodeCond, Oper: 6, Kids: []api.Node{has(1), a, a}},
		{Kind: api.NodeCall, Oper: 3, Type: 1, Kids: []api.Node{a}}, {Kind: api.NodeConv, Type: 1, Oper: 3, Kids: []api.Node{a}},
	}
}

// deepNode is one level too deep, and else fits.
func deepNode() api.Node {
	return grown(reg("i"), deepest+1, func(n api.Node) api.Node { return unary(api.OperNeg, n) })
}

// within are expressions in which another one stands.
func within(n api.Node) []api.Node {
	a, z := reg("i"), reg("zz")
	return []api.Node{n, unary(2, n), binary(6, n, a), binary(6, z, n), binary(8, a, n), cond(n, a, a), cond(z, n, a), cond(a, z, n), call(3, n), call(4, n, a), call(5, z, n), conv(1, n)}
}
