package types_test

import (
	"testing"

	"tripwire/api"
	"tripwire/types"
)

// faulty is an expression with one thing wrong, and what is told of it.
type faulty struct {
	n     api.Node
	no    api.Errno
	place int
}

// faults are wrong in all ways; no node beside the wrong one has its place.
func faults(from int) []faulty {
	ok := at(from, num(1))
	return []faulty{
		{at(from+1, reg("zz")), none, from + 1},
		{at(from+2, unary(api.OperNeg, at(from, has(1)))), fit, from + 2},
		{at(from+3, unary(api.OperNot, ok)), fit, from + 3},
		{at(from+4, call(api.OperAbs, at(from, buy()))), fit, from + 4},
		{at(from+5, call(api.OperMax, ok, at(from, lots()))), fit, from + 5},
		{at(from+6, binary(api.OperAdd, at(from, price()), ok)), fit, from + 6},
		{at(from+7, binary(api.OperMul, at(from, lots()), at(from, lots()))), fit, from + 7},
		{at(from+8, binary(api.OperDiv, ok, at(from, lots()))), fit, from + 8},
		{at(from+9, binary(api.OperEq, ok, at(from, lots()))), fit, from + 9},
		{at(from+10, binary(api.OperGe, at(from, buy()), at(from, buy()))), fit, from + 10},
		{at(from+11, binary(api.OperOr, at(from, has(1)), ok)), fit, from + 11},
		{at(from+12, cond(ok, ok, ok)), fit, from + 12},
		{at(from+13, cond(at(from, has(2)), ok, at(from, price()))), fit, from + 13},
		{at(from+14, conv(tQty, at(from, buy()))), fit, from + 14},
		{at(from, unary(api.OperNeg, at(from+15, reg("yy")))), none, from + 15},
	}
}

// nodesAround are nodes around two kids, with all that they need beside them; whatever the kids' types, they are in their order.
func nodesAround(x, y api.Node) []api.Node {
	all := []api.Node{cond(x, y, num(1)), cond(x, num(1), y), cond(num(1), x, y)}
	for o := range rowsOfTwo() {
		all = append(all, oper(o, x, y))
	}
	return all
}

// Of two that are wrong below two kids the first kid's is told; what is wrong below a kid is told ahead of what is wrong with the node itself.
func TestTheFirstOfSeveralFaults(t *testing.T) {
	s := full()
	for _, x := range faults(1000) {
		expectNoType(t, s, x.n, x.no, x.place)
		for _, n := range []api.Node{unary(api.OperNeg, x.n), unary(api.OperNot, x.n), call(api.OperAbs, x.n), conv(tQty, x.n)} {
			expectNoType(t, s, at(1, n), x.no, x.place)
		}
		for _, y := range faults(2000) {
			for _, n := range nodesAround(x.n, y.n) {
				expectNoType(t, s, at(1, n), x.no, x.place)
			}
			for _, n := range nodesAround(y.n, x.n) {
				expectNoType(t, s, at(1, n), y.no, y.place)
			}
			expectNoType(t, s, cond(x.n, y.n, x.n), x.no, x.place)
			// One is far below, the other close by.
			far := grown(x.n, 10, func(n api.Node) api.Node { return conv(tInt, unary(api.OperNeg, n)) })
			expectNoType(t, s, binary(api.OperAdd, far, y.n), x.no, x.place)
			expectNoType(t, s, binary(api.OperAdd, y.n, far), y.no, y.place)
		}
		// With kids that don't fit each other, whichever they are.
		for _, kid := range []api.Node{num(1), lots(), price(), has(1), buy()} {
			for _, n := range append(nodesAround(x.n, kid), nodesAround(kid, x.n)...) {
				expectNoType(t, s, at(1, n), x.no, x.place)
			}
		}
	}
}

// The third kid of a condition is looked at ahead of what is wrong with the condition.
func TestThirdKidAheadOfTheNode(t *testing.T) {
	s := full()
	for _, x := range faults(1000) {
		expectNoType(t, s, at(1, cond(num(1), lots(), x.n)), x.no, x.place)
		expectNoType(t, s, at(1, cond(has(1), buy(), x.n)), x.no, x.place)
	}
}

// A node's place alone counts, whatever numbers its kids' places are.
func TestPlacesOfAnyNumbers(t *testing.T) {
	s := full()
	for _, place := range []int{0, 1, -1, 4095, 4096, 1 << 40, least, greatest} {
		for _, kid := range []int{0, 5, -5, least, greatest} {
			expectNoType(t, s, at(place, binary(api.OperAdd, at(kid, num(1)), at(kid, lots()))), fit, place)
			expectNoType(t, s, at(kid, binary(api.OperAdd, at(kid, num(1)), at(place, reg("zz")))), none, place)
			when := at(place, binary(api.OperAdd, at(kid, num(1)), at(kid, lots())))
			expectWrongBelow(t, full(api.Rule{When: when, Dos: []api.Do{halt()}, At: kid}), fit, place)
			expectWrong(t, full(api.Rule{When: at(place, num(1)), Dos: []api.Do{halt()}, At: kid}), fit, place)
			expectWrong(t, doing(doAt(kid, halt()), doAt(place, halt())), last, place)
			expectWrong(t, doing(doAt(place, set("zz", at(kid, num(1))))), none, place)
			expectWrong(t, doing(doAt(kid, set("b", at(place, num(1))))), fit, place)
		}
		x := full()
		x.Regs[3].At, x.Regs[3].Name = place, "i"
		expectWrong(t, x, twice, place)
		x = full()
		x.Regs[3].At, x.Regs[3].Init = place, at(17, num(1))
		expectWrong(t, x, fit, place)
		x = full()
		x.Slots[1] = api.Slot{Name: "o", At: place}
		expectWrong(t, x, twice, place)
		x = full()
		x.States[1] = api.State{Name: "a", At: place}
		expectWrong(t, x, twice, place)
	}
}

// Places change nothing in whether types fit.
func TestPlacesDoNotMatterToTypes(t *testing.T) {
	s := full()
	for _, to := range []api.Type{tInt, tQty, tPrice, tTime, tBool, tSide} {
		n := grown(reg(regNames[to]), 3, func(n api.Node) api.Node { return cond(has(1), n, n) })
		expectType(t, s, places(n, func(int) int { return least }), to)
		expectType(t, s, numbered(n), to)
	}
	if err := types.Check(numbered(doing(dosOfEach()[:8]...))); err != nil {
		t.Error(err)
	}
}
