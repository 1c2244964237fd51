package cost_test

import (
	"errors"
	"reflect"
	"testing"

	"tripwire/api"
	"tripwire/cost"
	"tripwire/types"
)

// refused is a strategy that types.Check refuses, and why.
type refused struct {
	s     api.Strategy
	no    api.Errno
	place int
}

// refusedOfEach are refused for each of chapter 15's errors, and of chapter 12's; with these rules in their second state besides.
func refusedOfEach(rules ...api.Rule) []refused {
	but := func(s api.Strategy, change func(s *api.Strategy)) api.Strategy {
		s.States[1].Rules = rules
		change(&s)
		return s
	}
	same := func(*api.Strategy) {}
	fine := func() api.Strategy { return full(rule(asking(3), cancel("o"), halt())) }
	return []refused{
		{but(fine(), func(s *api.Strategy) { s.Regs[1].Name = "i" }), twice, 102},
		{but(fine(), func(s *api.Strategy) { s.Slots[1].Name = "o" }), twice, 108},
		{but(fine(), func(s *api.Strategy) { s.States[1].Name = "a" }), twice, 110},
		{but(full(rule(at(9, reg("zz")), halt())), same), none, 9},
		{but(full(rule(asking(1), doAt(8, cancel("zz")))), same), none, 8},
		{but(full(rule(asking(1), doAt(7, goTo("zz")))), same), none, 7},
		{but(fine(), func(s *api.Strategy) { s.Regs[0].Init = lots() }), fit, 101},
		{but(full(rule(at(6, num(1)), halt())), same), fit, 6},
		{but(full(rule(asking(1), set("i", at(5, binary(api.OperAdd, num(1), lots()))))), same), fit, 5},
		{but(full(rule(asking(1), halt(), doAt(4, halt()))), same), last, 4},
		{but(full(rule(asking(1), goTo("a"), doAt(3, cancel("o")))), same), last, 3},
		{but(fine(), func(s *api.Strategy) { s.Name = "" }), wrongForm, 0},
		{but(full(rule(asking(1))), same), wrongForm, 0},
		{but(full(rule(at(2, api.Node{}), halt())), same), wrongForm, 0},
		{but(full(rule(asking(1), api.Do{At: 2})), same), wrongForm, 0},
		{but(fine(), func(s *api.Strategy) { s.States = times(13, s.States[0]) }), tooMany, 0},
		{but(full(times(13, rule(asking(1), halt()))...), same), tooMany, 0},
		{but(full(rule(asking(1), times(9, cancel("o"))...)), same), tooMany, 0},
		{but(full(rule(asking(1), set("i", at(2, deepNode())))), same), tooDeep, 0},
	}
}

// What types.Check refuses is refused by its own error, whatever it would cost.
func TestStrategiesThatAreRefused(t *testing.T) {
	reached := map[api.Errno]int{}
	for _, rules := range [][]api.Rule{nil, {rule(asking(3), cancel("o"))}, {rule(asking(501), halt())}} {
		for _, x := range refusedOfEach(rules...) {
			expectRefused(t, x.s, x.no, x.place)
			reached[x.no]++
		}
	}
	for _, no := range []api.Errno{twice, none, fit, last, wrongForm, tooMany, tooDeep} {
		if reached[no] == 0 {
			t.Errorf("%d was not reached", no)
		}
	}
	expectRefused(t, api.Strategy{}, wrongForm, 0)
	expectRefused(t, api.Strategy{Name: "s"}, wrongForm, 0)
}

// Wherever an expression stands that may not be, or that has no type.
func TestStrategiesWithWrongExpressions(t *testing.T) {
	withNode := []func(n api.Node) api.Rule{
		func(n api.Node) api.Rule { return rule(n, halt()) },
		func(n api.Node) api.Rule { return rule(asking(2), submit("o", n, lots(), price())) },
		func(n api.Node) api.Rule { return rule(asking(2), submit("", buy(), n, price())) },
		func(n api.Node) api.Rule { return rule(asking(2), submit("u", buy(), lots(), n)) },
		func(n api.Node) api.Rule { return rule(asking(2), market("u", n, lots())) },
		func(n api.Node) api.Rule { return rule(asking(2), market("u", buy(), n)) },
		func(n api.Node) api.Rule { return rule(asking(2), amend("o", n, price())) },
		func(n api.Node) api.Rule { return rule(asking(2), amend("o", lots(), n)) },
		func(n api.Node) api.Rule { return rule(asking(2), set("t", n)) },
	}
	for _, with := range withNode {
		for _, n := range wrongNodes() {
			expectRefused(t, full(with(at(44, n))), wrongForm, 0)
		}
		expectRefused(t, full(with(at(44, deepNode()))), tooDeep, 0)
		expectRefused(t, full(with(at(44, reg("zz")))), none, 44)
		expectRefused(t, full(with(at(44, num(1)))), fit, 44)
		expectRefused(t, full(rule(asking(600), halt()), with(at(44, unary(api.OperNeg, at(45, reg("zz")))))), none, 45)
	}
}

// The error is types.Check's own: its calls, its places, what lies within it.
func TestTheErrorIsThatOfTypes(t *testing.T) {
	s := full(rule(at(5, reg("zz")), halt()))
	want := error(&api.Failure{Call: "Check", At: 5, Err: &api.Failure{Call: "Of", At: 5, Err: none}})
	if err := types.Check(s); !reflect.DeepEqual(err, want) {
		t.Fatal(told(err))
	}
	all, err := cost.States(s)
	if len(all) != 0 || !reflect.DeepEqual(err, want) {
		t.Errorf("%v, %s", all, told(err))
	}
	most, err := cost.Strategy(s)
	if most != (api.Cost{}) || !reflect.DeepEqual(err, want) {
		t.Errorf("%v, %s", most, told(err))
	}
	var f *api.Failure
	if !errors.As(err, &f) {
		t.Fatal(told(err))
	}
	f.Call, f.At = "", 6
	expectRefused(t, s, none, 5)
}

// Several wrong at once: tree's ahead of types', these ahead of what it costs; mended one after the other.
func TestSeveralWrongAtOnce(t *testing.T) {
	s := full(rule(asking(501), set("i", at(9, lots())), doAt(8, cancel("zz"))), rule(at(7, reg("zz")), halt()))
	s.Regs[3].Name = "i"
	s.Name = ""
	expectRefused(t, s, wrongForm, 0)
	s.Name = "s"
	expectRefused(t, s, twice, 104)
	s.Regs[3].Name = "t"
	expectRefused(t, s, fit, 9)
	s.States[0].Rules[0].Dos[0].Value = num(1)
	expectRefused(t, s, none, 8)
	s.States[0].Rules[0].Dos[1].Name = "o"
	expectRefused(t, s, none, 7)
	s.States[0].Rules[1].When = reg("b")
	expectCosts(t, s, api.Cost{Steps: 503, Acts: 1}, api.Cost{})
	expectTooMuch(t, s)
	s.States[0].Rules[0].When = asking(498)
	expectCosts(t, s, api.Cost{Steps: 500, Acts: 1}, api.Cost{})
}
