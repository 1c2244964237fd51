package cost_test

import (
	"errors"
	"strings"
	"testing"

	"tripwire/api"
	"tripwire/cost"
	"tripwire/parse"
)

// A strategy may cost 500 steps, and no more; its states are told their costs all the same.
func TestStepsOfAboutFiveHundred(t *testing.T) {
	for steps := 490; steps < 510; steps++ {
		expectCosts(t, full(rule(asking(steps), halt())), api.Cost{Steps: steps}, api.Cost{})
		expectCosts(t, full(rule(asking(1), set("p", pricey(steps-1)))), api.Cost{Steps: steps}, api.Cost{})
		expectCosts(t, full(rule(asking(1), set("p", pricey(steps-101))), rule(asking(100), cancel("o"))), api.Cost{Steps: steps, Acts: 1}, api.Cost{})
		expectCosts(t, full(times(12, rule(asking(1), submit("o", aSide(4), manyLots(100), pricey(steps-116))))...), api.Cost{Steps: steps, Acts: 1}, api.Cost{})
	}
	for _, steps := range []int{500, 501} {
		s := full(rule(asking(steps), halt()))
		is, err := cost.Strategy(s)
		if steps == 500 && (is != api.Cost{Steps: 500} || err != nil) || steps == 501 && (is != api.Cost{} || err == nil) {
			t.Errorf("%d steps: %v, %s", steps, is, told(err))
		}
	}
	for _, steps := range []int{999, 1000, 5000, 100001} {
		expectCosts(t, full(rule(asking(steps), halt())), api.Cost{Steps: steps}, api.Cost{})
	}
}

// Whichever state it is that costs too much, and whatever the others cost.
func TestWhichStateCostsTooMuch(t *testing.T) {
	much, most := []api.Rule{rule(asking(501), cancel("o"))}, []api.Rule{rule(asking(500), cancel("o"))}
	for k := range 12 {
		states, want := make([][]api.Rule, 12), make([]api.Cost, 12)
		for e := range 12 {
			states[e], want[e] = most, api.Cost{Steps: 500, Acts: 1}
		}
		expectCosts(t, inStates(states...), want...)
		states[k], want[k] = much, api.Cost{Steps: 501, Acts: 1}
		expectCosts(t, inStates(states...), want...)
		states, want = make([][]api.Rule, 12), make([]api.Cost, 12)
		states[k], want[k] = much, api.Cost{Steps: 501, Acts: 1}
		expectCosts(t, inStates(states...), want...)
	}
	expectCosts(t, inStates(much, much), api.Cost{Steps: 501, Acts: 1}, api.Cost{Steps: 501, Acts: 1})
	// Steps of two states are not added up, nor are actions steps.
	expectCosts(t, inStates([]api.Rule{rule(asking(300), halt())}, []api.Rule{rule(asking(300), halt())}), api.Cost{Steps: 300}, api.Cost{Steps: 300})
	expectCosts(t, full(rule(asking(500), times(8, cancel("o"))...)), api.Cost{Steps: 500, Acts: 8}, api.Cost{})
}

// The error is found by errors.Is and errors.As, and has its place whatever places the strategy has.
func TestTheErrorOfTooMuch(t *testing.T) {
	s := numbered(full(rule(asking(501), halt())))
	_, err := cost.Strategy(s)
	var f *api.Failure
	if !errors.As(err, &f) || f.Call != "Strategy" || f.At != 0 || f.Err != error(api.ErrCostMuch) || !errors.Is(err, api.ErrCostMuch) {
		t.Errorf("%s", told(err))
	}
	if f == err && f.Unwrap() != error(api.Errno(160)) {
		t.Errorf("%v within", f.Unwrap())
	}
	if no, place := parse.Wrong(err); no != api.ErrCostMuch || place != 0 {
		t.Errorf("Wrong says %d at %d", no, place)
	}
	text := "strategy s { state a { when true" + strings.Repeat(" && true", 250) + " do halt; } }"
	expectTooMuch(t, strategy(t, text))
}

// Each error is one of its own: who changes one changes no other.
func TestErrorsOfTooMuchAreNew(t *testing.T) {
	s := full(rule(asking(501), halt()))
	_, err := cost.Strategy(s)
	var f *api.Failure
	if !errors.As(err, &f) {
		t.Fatal(told(err))
	}
	f.Call, f.At, f.Err = "", 5, fit
	expectTooMuch(t, s)
}
