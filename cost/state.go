package cost

import "tripwire/api"

func stepsOf(c api.Cost) int { return c.Steps }

func actsOf(c api.Cost) int { return c.Acts }

// costs are those of the states, in order.
func costs(states []api.State) []api.Cost {
	all := make([]api.Cost, len(states))
eachState:
	for i, x := range states {
		if len(x.Rules) == 0 {
			// Its cost stands there already: noughts.
			continue eachState
		}
		all[i] = costOf(x.Rules)
	}
	return all
}

// costOf is the cost of a state with these rules: at worst every guard is asked, and the heaviest body is done.
func costOf(rules []api.Rule) api.Cost {
	steps := greatest(rules, bodyWeight)
	add := func(more int) { steps += more }
	for _, r := range rules {
		weigh(r.When, add)
	}
	return api.Cost{Steps: steps, Acts: greatest(rules, actions)}
}

// bodyWeight is the weight of all that a rule does.
func bodyWeight(r api.Rule) int {
	sum := 0
	add := func(more int) { sum += more }
	for _, d := range r.Dos {
		for _, n := range [...]api.Node{d.Side, d.Qty, d.Price, d.Value} {
			// What its kind does not have is a node of noughts, and no expression.
			if n.Kind != 0 {
				weigh(n, add)
			}
		}
	}
	return sum
}

// actions is how many of the things that a rule does go out to the market.
func actions(r api.Rule) int {
	count := 0
	for _, d := range r.Dos {
		switch d.Kind {
		case api.DoSubmit, api.DoAmend, api.DoCancel:
			count++
		}
	}
	return count
}
