package cost_test

import (
	"testing"

	"tripwire/api"
)

// Rows without brackets are no deeper for their length: they may be as long as anything may be nested, and so may be what is too deep.

const long = 60000

func TestLongRows(t *testing.T) {
	expectWeight(t, row(api.OperAdd, reg("p"), field(1), long), 2*long+1)
	expectWeight(t, row(api.OperAnd, has(1), reg("b"), long), 2*long+1)
	expectWeight(t, row(api.OperAdd, at(8, api.Node{}), num(1), long), 0)
	for _, x := range []struct {
		layer func(n api.Node) api.Node
		each  int
	}{
		{func(n api.Node) api.Node { return unary(api.OperNeg, n) }, 1},
		{func(n api.Node) api.Node { return conv(tInt, n) }, 0},
		{func(n api.Node) api.Node { return call(api.OperMax, num(1), n) }, 2},
		{func(n api.Node) api.Node { return cond(n, num(1), num(1)) }, 3},
		{func(n api.Node) api.Node { return cond(has(1), n, num(1)) }, 3},
		{func(n api.Node) api.Node { return cond(has(1), num(1), n) }, 3},
	} {
		expectWeight(t, grown(num(1), long, x.layer), long*x.each+1)
	}
	much := row(api.OperOr, reg("b"), has(1), long)
	expectCosts(t, full(rule(much, halt()), rule(much, set("b", much))), api.Cost{Steps: 3 * (2*long + 1)}, api.Cost{})
}

// As much of everything as may be.
func TestAsMuchAsMayBe(t *testing.T) {
	var states [][]api.Rule
	var want []api.Cost
	for k := range 12 {
		rules := times(12, rule(asking(2+k), times(8, submit("o", aSide(1), manyLots(k+1), pricey(2)))...))
		states, want = append(states, rules), append(want, api.Cost{Steps: 12*(2+k) + 8*(k+4), Acts: 8})
	}
	expectCosts(t, inStates(states...), want...)
}
