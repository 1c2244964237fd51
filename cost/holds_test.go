package cost_test

import (
	"errors"
	"testing"

	"tripwire/api"
	"tripwire/cost"
	"tripwire/tree"
	"tripwire/types"
)

// kindOf is the calls and the number of an error.
func kindOf(err error) string {
	var f *api.Failure
	var no api.Errno
	switch {
	case err == nil:
		return "fine"
	case errors.As(err, &f):
		return f.Call + " " + kindOf(f.Err)
	case errors.As(err, &no):
		return no.Error()[len("error "):]
	}
	return "other"
}

// walker goes one way through expressions, as something that runs them would, and counts its steps: which way each question goes, and where all ends, is drawn.
type walker struct {
	below func(int) int
	steps int
}

// turns tells which way to go.
func (w *walker) turns() bool { return w.below(2) == 0 }

func (w *walker) run(n api.Node) {
	switch {
	case n.Kind == api.NodeConv:
		w.run(n.Kids[0])
	case n.Kind == api.NodeCond:
		w.run(n.Kids[0])
		w.steps++
		if w.turns() {
			w.run(n.Kids[1])
			w.steps++
			return
		}
		w.run(n.Kids[2])
	case n.Kind == api.NodeBinary && (n.Oper == api.OperAnd || n.Oper == api.OperOr):
		w.run(n.Kids[0])
		w.steps++
		if w.turns() {
			w.run(n.Kids[1])
		}
	default:
		for _, kid := range n.Kids {
			w.run(kid)
		}
		w.steps++
	}
}

// fire goes through a state's rules up to one that holds, and does that: it answers how many actions it lets out.
func (w *walker) fire(x api.State) int {
	for _, r := range x.Rules {
		w.run(r.When)
		if w.turns() {
			continue
		}
		acts := 0
		for _, d := range r.Dos {
			for _, n := range exprsOf(api.Strategy{States: []api.State{{Rules: []api.Rule{{Dos: []api.Do{d}}}}}})[1:] {
				w.run(n)
			}
			if d.Kind == api.DoSubmit || d.Kind == api.DoAmend || d.Kind == api.DoCancel {
				acts++
			}
		}
		return acts
	}
	return 0
}

// No evaluation in a state has more steps, and no firing more actions, than the state's cost says: whichever way it goes.
func TestNoWayIsLongerThanTheCost(t *testing.T) {
	ways, just := 0, 0
	for k, s := range drawnStrategies(20000, 1500) {
		all, err := cost.States(s)
		if err != nil {
			continue
		}
		for e, x := range s.States {
			for again := range 20 {
				w := &walker{below: draw(uint64(100*k + again))}
				acts := w.fire(x)
				ways++
				if w.steps > all[e].Steps || acts > all[e].Acts {
					t.Errorf("%d steps, %d actions in %s; it should be %v at most", w.steps, acts, short(x), all[e])
				}
				if w.steps == all[e].Steps && acts == all[e].Acts && len(x.Rules) > 0 {
					just++
				}
			}
		}
	}
	if ways < 10000 || just < 500 {
		t.Errorf("%d ways, %d of them with just that cost", ways, just)
	}
}

// No way through an expression is longer than its weight.
func TestNoWayIsLongerThanTheWeight(t *testing.T) {
	just := 0
	for k := range 3000 {
		d := drawer{below: draw(uint64(30000 + k)), slips: 30}
		n := d.expr(d.typed(), 1+d.below(30))
		for again := range 10 {
			w := &walker{below: draw(uint64(again))}
			w.run(n)
			if is := cost.Expr(n); w.steps > is {
				t.Errorf("%d steps in %s, which weighs %d", w.steps, short(n), is)
			} else if w.steps == is {
				just++
			}
		}
	}
	if just < 1000 {
		t.Errorf("%d ways with just that weight", just)
	}
}

func condsOf(n api.Node) int {
	count := 0
	for x := range tree.All(n) {
		if x.Kind == api.NodeCond {
			count++
		}
	}
	return count
}

// An expression's weight is at least 1, and at most its size and a NodeCond's count besides: no more than twice its size.
func TestWeightsAreWithinSizes(t *testing.T) {
	conds := 0
	expectWithin := func(n api.Node) {
		t.Helper()
		is, size := cost.Expr(n), tree.Size(n)
		if is < 1 || is > size+condsOf(n) || is > 2*size {
			t.Errorf("%s weighs %d; its size is %d", short(n), is, size)
		}
		if condsOf(n) > 0 {
			conds++
		}
	}
	for k := range 3000 {
		d := drawer{below: draw(uint64(40000 + k)), slips: []int{0, 30}[k%2]}
		for x := range tree.All(d.expr(d.typed(), 1+d.below(50))) {
			expectWithin(x)
		}
	}
	for _, n := range leavesOfEach() {
		expectWithin(n)
		expectWithin(cond(n, n, n))
	}
	expectWithin(deepNode())
	if conds < 1000 {
		t.Errorf("%d expressions with conditions", conds)
	}
	// With no condition and no conversion it is the size.
	for w := 1; w < 40; w++ {
		expectWeight(t, weighing(w), tree.Size(weighing(w)))
	}
}

// expectNoLess tells whether no cost of a strategy is less than that of another one, state by state, and in all.
func expectNoLess(t *testing.T, more, than api.Strategy) {
	t.Helper()
	a, errA := cost.States(than)
	b, errB := cost.States(more)
	if errA != nil || errB != nil {
		t.Errorf("%s; %s", told(errA), told(errB))
		return
	}
	for k := range a {
		if b[k].Steps < a[k].Steps || b[k].Acts < a[k].Acts {
			t.Errorf("%v is less than %v: %s", b[k], a[k], short(more))
		}
	}
	mostA, errA := cost.Strategy(than)
	mostB, errB := cost.Strategy(more)
	switch {
	case errB == nil && (errA != nil || mostB.Steps < mostA.Steps || mostB.Acts < mostA.Acts):
		t.Errorf("%v, %s is less than %v, %s", mostB, told(errB), mostA, told(errA))
	case errB != nil && !errors.Is(errB, tooMuch):
		t.Errorf("%s", told(errB))
	}
}

// A rule more makes no cost less: wherever it comes.
func TestARuleMore(t *testing.T) {
	seen := 0
	for k, s := range drawnStrategies(50000, 1500) {
		if types.Check(s) != nil {
			continue
		}
		d := drawer{below: draw(uint64(k)), regs: s.Regs}
		var slots, states []string
		for _, x := range s.Slots {
			slots = append(slots, x.Name)
		}
		for _, x := range s.States {
			states = append(states, x.Name)
		}
		which := d.below(len(s.States))
		for place := range len(s.States[which].Rules) + 1 {
			more := copied(s)
			was := s.States[which].Rules
			rules := append([]api.Rule{}, was[:place]...)
			rules = append(rules, d.rule(slots, states))
			more.States[which].Rules = append(rules, was[place:]...)
			expectNoLess(t, more, s)
			seen++
		}
	}
	if seen < 2000 {
		t.Errorf("only %d", seen)
	}
}

// A guard that is longer makes no cost less: by whatever it is longer. Nor does a longer body, or one that does more.
func TestALongerGuard(t *testing.T) {
	seen := 0
	for k, s := range drawnStrategies(60000, 300) {
		if types.Check(s) != nil {
			continue
		}
		d := drawer{below: draw(uint64(k)), regs: s.Regs}
		for e, x := range s.States {
			for i, r := range x.Rules {
				other := d.expr(tBool, 1+d.below(5))
				for _, longer := range []api.Node{
					unary(api.OperNot, r.When), binary(api.OperAnd, r.When, other), binary(api.OperOr, other, r.When), binary(api.OperEq, r.When, other),
					cond(r.When, other, other), cond(other, r.When, other), cond(other, other, r.When),
				} {
					more := copied(s)
					more.States[e].Rules[i].When = longer
					if tree.CheckExpr(longer) == api.OK {
						expectNoLess(t, more, s)
						seen++
					}
				}
				more := copied(s)
				more.States[e].Rules[i].Dos = append([]api.Do{market("", buy(), lots())}, r.Dos...)
				expectNoLess(t, more, s)
			}
		}
	}
	if seen < 2000 {
		t.Errorf("only %d", seen)
	}
}
