package cost_test

import (
	"testing"

	"tripwire/api"
)

func TestExamplesOfExpressions(t *testing.T) {
	for text, want := range map[string]int{
		"bid": 1, "-bid": 2, "int(bid)": 1, "int(-bid)": 2,
		"bid + 1p > lim && !done": 8,
		"done ? bid : bid + 1p":   6, "min(bid, ask)": 3,
	} {
		expectWeight(t, expr(t, text), want)
	}
}

const (
	exampleFirst  = "when has bid do submit buy of 2q at bid + 1p limit, halt;"
	exampleSecond = "when now > 5t do set n = n + 1, cancel o, cancel o;"
)

func example(t *testing.T, states string) api.Strategy {
	t.Helper()
	return strategy(t, "strategy s { reg n int = 0; slot o; "+states+" }")
}

func TestExamplesOfStates(t *testing.T) {
	expectCosts(t, example(t, "state a { "+exampleFirst+exampleSecond+" }"), api.Cost{Steps: 9, Acts: 2})
	expectCosts(t, example(t, "state a { "+exampleSecond+exampleFirst+" }"), api.Cost{Steps: 9, Acts: 2})
	expectCosts(t, example(t, "state a { "+exampleFirst+" }"), api.Cost{Steps: 6, Acts: 1})
	expectCosts(t, example(t, "state a { "+exampleSecond+" }"), api.Cost{Steps: 6, Acts: 2})
	expectCosts(t, example(t, "state a {}"), api.Cost{})
}

// Those of DOC.md, and strategies as one would write them, with what they cost.
func TestStrategiesAsOneWritesThem(t *testing.T) {
	for text, want := range map[string][]api.Cost{
		"strategy s { state a {} }": {{}},
		"strategy s { reg n int = 0; slot o; state a { when has ask && n < 1 do submit buy of 2q at ask limit as o, set n = n + 1; } }":                       {{Steps: 11, Acts: 1}},
		"strategy s { state a { when bid > 3p do halt; } }":                                                                                                   {{Steps: 3}},
		"strategy s { reg n int = 0; state a { when 10 / n > 3 || has bid do halt; when has bid || 10 / n > 3 do halt; } }":                                   {{Steps: 14}},
		"strategy s { state a { when has ask do submit buy of 1q at ask ioc; } }":                                                                             {{Steps: 4, Acts: 1}},
		"strategy s { slot o; state a { when true do cancel o; } }":                                                                                           {{Steps: 1, Acts: 1}},
		"strategy s { reg a int = 1; slot a; state a { when a > 0 do submit buy of 1q market as a, amend a to 1q at 2p, cancel a, set a = a * 2, goto a; } }": {{Steps: 10, Acts: 3}},
		"strategy x { reg way side = sell; reg since time = 0t; slot o; state wait { when now - since >= 10t && has last do set since = now, set way = way == buy ? sell : buy, goto go2; } state go2 { when true do submit way of max(1q, open / 2) at way == buy ? last : last + 1p fok as o, goto wait; } }": {{Steps: 14}, {Steps: 15, Acts: 1}},
	} {
		expectCosts(t, strategy(t, text), want...)
	}
}
