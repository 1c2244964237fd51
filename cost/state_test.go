package cost_test

import (
	"testing"

	"tripwire/api"
)

// asking is a guard of this weight.
func asking(weight int) api.Node {
	if weight%2 == 0 {
		return unary(api.OperNot, asking(weight-1))
	}
	return row(api.OperAnd, reg("b"), has(1), weight/2)
}

// pricey and manyLots are a price and a quantity of this weight.
func pricey(weight int) api.Node {
	if weight%2 == 0 {
		return unary(api.OperNeg, pricey(weight-1))
	}
	return row(api.OperAdd, field(api.FieldBid), price(), weight/2)
}

func manyLots(weight int) api.Node {
	if weight%2 == 0 {
		return unary(api.OperNeg, manyLots(weight-1))
	}
	return row(api.OperSub, field(api.FieldOpen), lots(), weight/2)
}

// aSide is one of this weight: 1, or 4 at least.
func aSide(weight int) api.Node {
	if weight == 1 {
		return buy()
	}
	return cond(asking(weight-3), reg("d"), buy())
}

func rule(when api.Node, dos ...api.Do) api.Rule { return api.Rule{When: when, Dos: dos} }

// doer is something done, its weight, and whether it is an action.
type doer struct {
	do     api.Do
	weight int
	acts   int
}

// doersOfEach are things done of each kind, with expressions of unlike weights at each place.
func doersOfEach() []doer {
	all := []doer{
		{market("o", aSide(4), manyLots(2)), 6, 1}, {market("", aSide(1), manyLots(9)), 10, 1}, {market("", aSide(8), manyLots(1)), 9, 1},
		{amend("o", manyLots(3), pricey(5)), 8, 1}, {amend("u", manyLots(6), pricey(1)), 7, 1},
		{cancel("o"), 0, 1}, {cancel("u"), 0, 1},
		{set("i", num(2)), 1, 0}, {set("p", pricey(7)), 7, 0}, {set("q", manyLots(4)), 4, 0}, {set("b", asking(11)), 11, 0}, {set("d", aSide(5)), 5, 0}, {set("t", conv(tTime, pricey(6))), 6, 0},
		{goTo("a"), 0, 0}, {goTo("z"), 0, 0}, {halt(), 0, 0},
	}
	for _, order := range []api.Kind{api.Limit, api.Now, api.All, api.Post} {
		for _, x := range []doer{
			{submit("o", aSide(1), manyLots(1), pricey(1)), 3, 1}, {submit("", aSide(6), manyLots(1), pricey(1)), 8, 1},
			{submit("u", aSide(1), manyLots(7), pricey(1)), 9, 1}, {submit("", aSide(1), manyLots(1), pricey(9)), 11, 1}, {submit("o", aSide(5), manyLots(3), pricey(4)), 12, 1},
		} {
			x.do.Order = order
			all = append(all, x)
		}
	}
	return all
}

func TestRulesOfEachKind(t *testing.T) {
	for _, x := range doersOfEach() {
		for w := 1; w < 5; w++ {
			expectCosts(t, full(rule(asking(w), x.do)), api.Cost{Steps: w + x.weight, Acts: x.acts}, api.Cost{})
		}
		if x.do.Kind >= api.DoGoto {
			continue
		}
		for _, y := range doersOfEach() {
			s := full(rule(asking(3), x.do, y.do))
			expectCosts(t, s, api.Cost{Steps: 3 + x.weight + y.weight, Acts: x.acts + y.acts}, api.Cost{})
		}
	}
}

// As many things as a rule may do: each counts, by its place and by its kind.
func TestRulesThatDoMuch(t *testing.T) {
	for first := range 8 {
		for _, x := range doersOfEach() {
			dos := times(8, cancel("o"))
			steps, acts := 0, 7
			if x.do.Kind >= api.DoGoto && first < 7 {
				continue
			}
			dos[first] = x.do
			expectCosts(t, full(rule(asking(1), dos...)), api.Cost{Steps: 1 + steps + x.weight, Acts: acts + x.acts}, api.Cost{})
		}
	}
	for count := 1; count <= 8; count++ {
		expectCosts(t, full(rule(asking(2), times(count, cancel("u"))...)), api.Cost{Steps: 2, Acts: count}, api.Cost{})
		expectCosts(t, full(rule(asking(2), times(count, set("i", num(1)))...)), api.Cost{Steps: 2 + count}, api.Cost{})
		expectCosts(t, full(rule(asking(2), times(count, submit("", aSide(4), manyLots(2), pricey(3)))...)), api.Cost{Steps: 2 + 9*count, Acts: count}, api.Cost{})
	}
}

// Guards are added up, whatever their bodies; of the bodies the heaviest counts, and of the actions the most, each by itself.
func TestSeveralRules(t *testing.T) {
	heavy := func(when int) api.Rule { return rule(asking(when), set("p", pricey(20)), halt()) }
	busy := func(when int) api.Rule { return rule(asking(when), cancel("o"), cancel("u"), cancel("o")) }
	both := func(when int) api.Rule {
		return rule(asking(when), submit("", buy(), lots(), price()), set("i", num(1)))
	}
	none := func(when int) api.Rule { return rule(asking(when), halt()) }
	for _, x := range []struct {
		rules []api.Rule
		want  api.Cost
	}{
		{[]api.Rule{heavy(2), busy(3)}, api.Cost{Steps: 25, Acts: 3}},
		{[]api.Rule{busy(3), heavy(2)}, api.Cost{Steps: 25, Acts: 3}},
		{[]api.Rule{both(1), heavy(2), busy(3)}, api.Cost{Steps: 26, Acts: 3}},
		{[]api.Rule{busy(3), both(1), heavy(2)}, api.Cost{Steps: 26, Acts: 3}},
		{[]api.Rule{heavy(2), busy(3), both(1)}, api.Cost{Steps: 26, Acts: 3}},
		{[]api.Rule{both(4), both(5)}, api.Cost{Steps: 13, Acts: 1}},
		{[]api.Rule{none(4), both(5)}, api.Cost{Steps: 13, Acts: 1}},
		{[]api.Rule{both(5), none(7)}, api.Cost{Steps: 16, Acts: 1}},
		{[]api.Rule{none(1), none(2), none(3)}, api.Cost{Steps: 6}},
		{[]api.Rule{heavy(9), heavy(1)}, api.Cost{Steps: 30}},
		{[]api.Rule{busy(9), busy(1)}, api.Cost{Steps: 10, Acts: 3}},
		{times(12, both(3)), api.Cost{Steps: 40, Acts: 1}},
	} {
		expectCosts(t, full(x.rules...), x.want, api.Cost{})
	}
	for k := range 12 {
		rules := times(12, none(2))
		rules[k] = heavy(5)
		expectCosts(t, full(rules...), api.Cost{Steps: 47}, api.Cost{})
		rules[k] = busy(5)
		expectCosts(t, full(rules...), api.Cost{Steps: 27, Acts: 3}, api.Cost{})
		rules[(k+5)%12] = heavy(1)
		expectCosts(t, full(rules...), api.Cost{Steps: 46, Acts: 3}, api.Cost{})
	}
}

// inStates is full with states of these rules, each by a name of its own.
func inStates(states ...[]api.Rule) api.Strategy {
	s := full()
	s.States = nil
	for k, rules := range states {
		s.States = append(s.States, api.State{Name: string(rune('a' + k)), Rules: rules, At: k})
	}
	return s
}

// States without rules cost nothing, and shift no other: alone, ahead of, between and behind those with rules.
func TestStatesWithoutRules(t *testing.T) {
	one, two := []api.Rule{rule(asking(3), cancel("o"))}, []api.Rule{rule(asking(5), set("i", num(1))), rule(asking(1), halt())}
	first, second := api.Cost{Steps: 3, Acts: 1}, api.Cost{Steps: 7}
	expectCosts(t, smallest(), api.Cost{})
	expectCosts(t, inStates(nil), api.Cost{})
	expectCosts(t, inStates(nil, nil, nil), api.Cost{}, api.Cost{}, api.Cost{})
	expectCosts(t, inStates(one), first)
	expectCosts(t, inStates(one, two), first, second)
	expectCosts(t, inStates(two, one), second, first)
	expectCosts(t, inStates(nil, one, two), api.Cost{}, first, second)
	expectCosts(t, inStates(one, nil, two), first, api.Cost{}, second)
	expectCosts(t, inStates(one, two, nil), first, second, api.Cost{})
	expectCosts(t, inStates(nil, one, nil, nil, two, nil), api.Cost{}, first, api.Cost{}, api.Cost{}, second, api.Cost{})
	expectCosts(t, inStates([]api.Rule{}, two, []api.Rule{}), api.Cost{}, second, api.Cost{})
	for k := range 12 {
		states, want := make([][]api.Rule, 12), make([]api.Cost, 12)
		states[k], want[k] = one, first
		expectCosts(t, inStates(states...), want...)
		for e := range 12 {
			states[e], want[e] = one, first
		}
		states[k], want[k] = nil, api.Cost{}
		expectCosts(t, inStates(states...), want...)
	}
}

// The greatest Steps and the greatest Acts may be those of two states, in any order.
func TestSeveralStates(t *testing.T) {
	steps := []api.Rule{rule(asking(30), halt())}
	acts := []api.Rule{rule(asking(1), times(5, cancel("o"))...)}
	some := []api.Rule{rule(asking(4), cancel("o"), set("i", num(1)))}
	a, b, c := api.Cost{Steps: 30}, api.Cost{Steps: 1, Acts: 5}, api.Cost{Steps: 5, Acts: 1}
	expectCosts(t, inStates(steps, acts), a, b)
	expectCosts(t, inStates(acts, steps), b, a)
	expectCosts(t, inStates(some, acts, steps), c, b, a)
	expectCosts(t, inStates(steps, some, acts), a, c, b)
	expectCosts(t, inStates(acts, nil, steps, some), b, api.Cost{}, a, c)
	expectCosts(t, inStates(some, some), c, c)
	expectCosts(t, inStates(nil, some), api.Cost{}, c)
}

// What registers begin with is not reckoned, nor is a place, nor a name.
func TestWhatCostsNothing(t *testing.T) {
	s := full(rule(asking(3), cancel("o"), goTo("z")))
	want := []api.Cost{{Steps: 3, Acts: 1}, {}}
	expectCosts(t, s, want...)
	expectCosts(t, numbered(s), want...)
	s.Regs[0].Init = unary(api.OperNeg, num(greatest))
	s.Regs, s.Name = append(s.Regs, api.Reg{Name: "more", Type: tInt, Init: num(1)}), longName
	s.Slots = append(s.Slots, api.Slot{Name: "w"}, api.Slot{Name: "x"})
	expectCosts(t, s, want...)
	// What a thing done does not have is no expression, though it may stand at a place.
	d := cancel("o")
	d.Side.At, d.Qty.At, d.Price.At, d.Value.At = 1, 2, 3, 4
	d.Side.Kids, d.Value.Kids = []api.Node{}, []api.Node{}
	expectCosts(t, full(rule(asking(3), d, goTo("z"))), want...)
}
