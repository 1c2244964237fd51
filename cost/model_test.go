package cost_test

import (
	"reflect"
	"slices"
	"testing"

	"tripwire/api"
	"tripwire/cost"
	"tripwire/tree"
	"tripwire/types"
)

// A model: weights are laid in lists, from the bottom up, and added up or held against each other there; which expressions a thing has is told by its kind.

// modelWeight is the weight of an expression that may be.
func modelWeight(n api.Node) int {
	var kids []int
	for _, kid := range n.Kids {
		kids = append(kids, modelWeight(kid))
	}
	switch {
	case len(kids) == 0:
		return 1
	case n.Kind == api.NodeConv:
		return kids[0]
	case n.Kind == api.NodeCond:
		return kids[0] + slices.Max(kids[1:]) + 2
	}
	all := 1
	for _, w := range kids {
		all += w
	}
	return all
}

func modelExpr(n api.Node) int {
	if tree.CheckExpr(n) == api.ErrTreeForm {
		return 0
	}
	return modelWeight(n)
}

// modelCost is what the chapter says of a state.
func modelCost(x api.State) api.Cost {
	guards, bodies, acts := 0, []int{0}, []int{0}
	for _, r := range x.Rules {
		guards += modelWeight(r.When)
		body, act := 0, 0
		for _, d := range r.Dos {
			var has []api.Node
			switch {
			case d.Kind == api.DoSubmit && d.Order == api.Market:
				has = []api.Node{d.Side, d.Qty}
			case d.Kind == api.DoSubmit:
				has = []api.Node{d.Side, d.Qty, d.Price}
			case d.Kind == api.DoAmend:
				has = []api.Node{d.Qty, d.Price}
			case d.Kind == api.DoSet:
				has = []api.Node{d.Value}
			}
			for _, n := range has {
				body += modelWeight(n)
			}
			if d.Kind <= api.DoCancel {
				act++
			}
		}
		bodies, acts = append(bodies, body), append(acts, act)
	}
	return api.Cost{Steps: guards + slices.Max(bodies), Acts: slices.Max(acts)}
}

func modelStates(s api.Strategy) ([]api.Cost, error) {
	if err := types.Check(s); err != nil {
		return nil, err
	}
	var all []api.Cost
	for _, x := range s.States {
		all = append(all, modelCost(x))
	}
	return all, nil
}

func modelStrategy(s api.Strategy) (api.Cost, error) {
	all, err := modelStates(s)
	if err != nil {
		return api.Cost{}, err
	}
	var steps, acts []int
	for _, c := range all {
		steps, acts = append(steps, c.Steps), append(acts, c.Acts)
	}
	most := api.Cost{Steps: slices.Max(steps), Acts: slices.Max(acts)}
	if most.Steps >= 501 {
		return api.Cost{}, &api.Failure{Call: "Strategy", Err: tooMuch}
	}
	return most, nil
}

// expectAsModel tells whether all calls say what the model says, and answers the error of Strategy.
func expectAsModel(t *testing.T, s api.Strategy) error {
	t.Helper()
	all, err := cost.States(s)
	if want, wantErr := modelStates(s); !slices.Equal(all, want) || !reflect.DeepEqual(err, wantErr) {
		t.Errorf("States(%s) is %v, %s; want %v, %s", short(s), all, told(err), want, told(wantErr))
	}
	most, err := cost.Strategy(s)
	if want, wantErr := modelStrategy(s); most != want || !reflect.DeepEqual(err, wantErr) {
		t.Errorf("Strategy(%s) is %v, %s; want %v, %s", short(s), most, told(err), want, told(wantErr))
	}
	for _, n := range exprsOf(s) {
		expectWeight(t, n, modelExpr(n))
	}
	return err
}

// exprsOf are all expressions of a strategy: what registers begin with, what rules ask, what their things have.
func exprsOf(s api.Strategy) []api.Node {
	var all []api.Node
	for _, r := range s.Regs {
		all = append(all, r.Init)
	}
	for _, x := range s.States {
		for _, r := range x.Rules {
			all = append(all, r.When)
			for _, d := range r.Dos {
				for _, n := range []api.Node{d.Side, d.Qty, d.Price, d.Value} {
					if n.Kind != 0 {
						all = append(all, n)
					}
				}
			}
		}
	}
	return all
}

// drawnStrategies are many: some fit, and some of these cost too much.
func drawnStrategies(from uint64, count int) []api.Strategy {
	var all []api.Strategy
	for k := range count {
		d := drawer{below: draw(from + uint64(k)), slips: []int{0, 300, 0, 40}[k%4]}
		s := d.strategy()
		switch {
		case k%7 == 0:
			s = d.strewn(s)
		case k%5 == 0:
			d.slips, d.regs = 0, s.Regs
			x := &s.States[d.below(len(s.States))]
			x.Rules = append(x.Rules, rule(row(api.OperAnd, d.expr(tBool, 20), d.expr(tBool, 20), 10+d.below(50)), halt()))
		}
		all = append(all, s)
	}
	return all
}

func TestDrawnStrategies(t *testing.T) {
	reached := map[string]int{}
	for _, s := range drawnStrategies(100, 5000) {
		err := expectAsModel(t, s)
		reached[kindOf(err)]++
	}
	for _, kind := range []string{"fine", "Strategy 160", "Check 150", "Check 152", "Check Of 151", "Check Of 152", "Check 120"} {
		if reached[kind] < 20 {
			t.Errorf("%s was reached %d times; all: %v", kind, reached[kind], reached)
		}
	}
}

func TestDrawnExpressions(t *testing.T) {
	conds := 0
	for k := range 5000 {
		d := drawer{below: draw(uint64(9000 + k)), slips: []int{0, 20}[k%2]}
		n := d.expr(d.typed(), 1+d.below(60))
		for x := range tree.All(n) {
			expectWeight(t, x, modelWeight(x))
			if x.Kind == api.NodeCond && modelWeight(x.Kids[1]) != modelWeight(x.Kids[2]) {
				conds++
			}
		}
	}
	if conds < 1000 {
		t.Errorf("%d conditions with kids of unlike weights", conds)
	}
}
