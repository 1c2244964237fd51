package types_test

import (
	"testing"

	"tripwire/api"
)

// Rows without brackets are no deeper for their length: they may be as long as anything may be nested.

const long = 60000

func TestLongRows(t *testing.T) {
	s := full()
	sum := row(api.OperAdd, reg("p"), field(1), long)
	expectType(t, s, sum, tPrice)
	expectType(t, s, row(api.OperAnd, reg("b"), has(1), long), tBool)
	expectType(t, s, row(api.OperMul, reg("t"), num(2), long), tTime)
	expectType(t, s, binary(api.OperDiv, sum, sum), tInt)
	expectFine(t, doing(submit("o", buy(), lots(), sum)))
	expectFine(t, full(api.Rule{When: row(api.OperOr, reg("b"), has(1), long), Dos: []api.Do{halt()}}))
	// Something wrong at its far end, in its midst, at its last.
	expectNoType(t, s, row(api.OperAdd, at(8, reg("zz")), at(9, reg("yy")), long), none, 8)
	expectNoType(t, s, at(9, binary(api.OperAdd, sum, num(1))), fit, 9)
	expectNoType(t, s, row(api.OperAdd, at(7, binary(api.OperAdd, row(api.OperAdd, price(), price(), long/2), lots())), at(6, reg("zz")), long/2), fit, 7)
	expectWrongBelow(t, doing(submit("o", buy(), lots(), row(api.OperAdd, at(8, reg("zz")), price(), long))), none, 8)
	expectWrong(t, doing(submit("o", buy(), at(5, sum), price())), fit, 5)
	// Whether it may be is asked ahead.
	expectNoType(t, s, row(api.OperAdd, at(8, api.Node{}), at(9, reg("yy")), long), wrongForm, 0)
	expectNoType(t, s, grown(reg("i"), long, func(n api.Node) api.Node { return unary(api.OperNeg, n) }), tooDeep, 0)
}

// Expressions as deep as may be, by each kind of node that goes deeper, and with something wrong at the bottom.
func TestDeepestExpressions(t *testing.T) {
	s := full()
	for _, layer := range []func(n api.Node) api.Node{
		func(n api.Node) api.Node { return unary(api.OperNeg, n) },
		func(n api.Node) api.Node { return call(api.OperAbs, n) },
		func(n api.Node) api.Node { return call(api.OperMax, num(1), n) },
		func(n api.Node) api.Node { return conv(tInt, n) },
		func(n api.Node) api.Node { return cond(has(1), num(1), n) },
		func(n api.Node) api.Node { return cond(has(1), n, num(1)) },
		func(n api.Node) api.Node { return binary(api.OperSub, num(1), n) },
	} {
		expectType(t, s, grown(reg("i"), deepest, layer), tInt)
		expectNoType(t, s, grown(at(3, reg("zz")), deepest, layer), none, 3)
		expectNoType(t, s, grown(reg("i"), deepest+2, layer), tooDeep, 0)
	}
}

// Many registers: the first of each name counts, and all are found.
func TestManyRegisters(t *testing.T) {
	var s api.Strategy
	name := func(k int) string {
		out := "n"
		for ; k > 0; k /= 26 {
			out += string(rune('a' + k%26))
		}
		return out
	}
	for k := range long {
		s.Regs = append(s.Regs, api.Reg{Name: name(k), Type: api.Type(k % 6)})
	}
	for k := range long {
		s.Regs = append(s.Regs, api.Reg{Name: name(k), Type: 99})
	}
	for _, k := range []int{0, 1, 2, 3, 4, 5, 1000, long - 1} {
		expectType(t, s, reg(name(k)), api.Type(k%6))
	}
	expectNoType(t, s, at(1, reg(name(long))), none, 1)
	// A row that names many of them, one by one, is no slower for their number.
	n := reg(name(1))
	for k := range long / 6 {
		n = binary(api.OperAdd, n, reg(name(6*k+1)))
	}
	expectType(t, s, n, tInt)
}
