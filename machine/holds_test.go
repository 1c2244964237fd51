package machine_test

import (
	"slices"
	"strconv"
	"strings"
	"testing"

	"tripwire/api"
	"tripwire/cost"
	"tripwire/lower"
	"tripwire/machine"
	"tripwire/mean"
	"tripwire/parse"
	"tripwire/table"
)

// writer writes texts of strategies whose registers are i, q, p, t, b, d, one of each type, and whose slots are o, u.
type writer struct{ below func(n int) int }

func (w writer) pick(l ...string) string { return l[w.below(len(l))] }

func (w writer) number() string {
	if w.below(12) == 0 {
		return "9223372036854775807"
	}
	return strconv.Itoa(w.below(12))
}

func (w writer) name(to api.Type) string {
	return []string{api.TypeInt: "i", api.TypeQty: "q", api.TypePrice: "p", api.TypeTime: "t", api.TypeBool: "b", api.TypeSide: "d"}[to]
}

func (w writer) leaf(to api.Type) string {
	n := w.number()
	switch to {
	case api.TypeInt:
		return w.pick("i", n)
	case api.TypeQty:
		return w.pick("q", n+"q", "volume", "open")
	case api.TypePrice:
		return w.pick("p", n+"p", "bid", "ask", "last")
	case api.TypeTime:
		return w.pick("t", n+"t", "now")
	case api.TypeBool:
		return w.pick("b", "true", "false", "has bid", "has ask", "has last")
	}
	return w.pick("d", "buy", "sell")
}

// expr is one of that type, so large at most.
func (w writer) expr(to api.Type, size int) string {
	if size <= 1 {
		return w.leaf(to)
	}
	half := func(to api.Type) string { return w.expr(to, size/2) }
	some := api.Type(1 + w.below(4))
	if w.below(5) == 0 {
		return "(" + half(api.TypeBool) + " ? " + half(to) + " : " + half(to) + ")"
	}
	switch {
	case to == api.TypeSide:
		return w.leaf(to)
	case to == api.TypeBool && w.below(3) == 0:
		return "(" + half(some) + w.pick(" < ", " <= ", " > ", " >= ", " == ", " != ") + half(some) + ")"
	case to == api.TypeBool:
		return w.pick("!", "") + "(" + half(to) + w.pick(" && ", " || ") + half(to) + ")"
	}
	return w.reckoned(to, some, half)
}

// reckoned is a number that is made of others; some is the type of one that is asked for otherwise.
func (w writer) reckoned(to, some api.Type, half func(to api.Type) string) string {
	switch w.below(8) {
	case 0:
		return []string{api.TypeInt: "int", api.TypeQty: "qty", api.TypePrice: "price", api.TypeTime: "time"}[to] + "(" + half(some) + ")"
	case 1:
		return w.pick("min", "max") + "(" + half(to) + ", " + half(to) + ")"
	case 2:
		return w.pick("abs(", "-(") + half(to) + ")"
	case 3:
		return "(" + half(api.TypeInt) + " * " + half(to) + ")"
	case 4:
		return "(" + half(to) + " / " + half(api.TypeInt) + ")"
	case 5:
		if to == api.TypeInt {
			return w.pick("("+half(some)+" / "+half(some)+")", "("+half(api.TypePrice)+" * "+half(api.TypeQty)+")")
		}
	}
	return "(" + half(to) + w.pick(" + ", " - ", " % ") + half(to) + ")"
}

func (w writer) do(last bool) string {
	expr := func(to api.Type) string { return w.expr(to, 1+w.below(6)) }
	submit := func() string { return "submit " + expr(api.TypeSide) + " of " + expr(api.TypeQty) }
	slot := w.pick("", " as o", " as u")
	switch k := w.below(8); {
	case last && k == 0:
		return "halt"
	case last && k == 1:
		return "goto " + w.pick("a", "c", "z")
	case k == 2:
		return "cancel " + w.pick("o", "u")
	case k == 3:
		return "amend " + w.pick("o", "u") + " to " + expr(api.TypeQty) + " at " + expr(api.TypePrice)
	case k == 4:
		return submit() + " market" + slot
	case k >= 6:
		to := api.Type(1 + w.below(6))
		return "set " + w.name(to) + " = " + expr(to)
	}
	return submit() + " at " + expr(api.TypePrice) + w.pick(" limit", " ioc", " fok", " post") + slot
}

func (w writer) strategy() string {
	var all strings.Builder
	all.WriteString("strategy s { reg i int = " + w.pick("", "-") + w.number() + "; reg q qty = 1q; reg p price = 3p; reg t time = 0t; reg b bool = true; reg d side = sell; slot o; slot u;")
	for _, state := range []string{"a", "c", "z"} {
		all.WriteString(" state " + state + " {")
		for range w.below(5) {
			var dos []string
			for last := w.below(4); last >= 0; last-- {
				dos = append(dos, w.do(last == 0))
			}
			all.WriteString(" when " + w.expr(api.TypeBool, 1+w.below(16)) + " do " + strings.Join(dos, ", ") + ";")
		}
		all.WriteString(" }")
	}
	return all.String() + " }"
}

// text is a strategy, what lower made of it, and what cost says of each of its states.
type text struct {
	s     api.Strategy
	x     api.Table
	costs []api.Cost
}

// lowered are drawn texts that lower takes.
func lowered(t *testing.T, from uint64, count int) []text {
	t.Helper()
	var all []text
	for k := range count {
		source := writer{draw(from + uint64(k))}.strategy()
		s, err := parse.Strategy(source)
		if no, _ := parse.Wrong(err); no == api.ErrLexLong {
			continue
		} else if err != nil {
			t.Fatalf("%q: %v", source, err)
		}
		x, err := lower.Strategy(s)
		if no, _ := parse.Wrong(err); no == api.ErrCostMuch {
			continue
		} else if err != nil {
			t.Fatalf("%q: %v", source, err)
		}
		costs, err := cost.States(s)
		if err != nil {
			t.Fatalf("%q: %v", source, err)
		}
		all = append(all, text{s, x, costs})
	}
	return all
}

// modeOf is a mode of a strategy of writer's.
func (d drawer) modeOf() api.Mode {
	return mode(d.below(3), d.seldom(), d.seldom(), d.seldom(), d.seldom(), int64(d.below(2)), int64(1+d.below(2)))
}

// expectText tells whether a turn of a table is the text's, but for its steps, and these are no more than was reckoned; it answers the turn.
func expectText(t *testing.T, y text, m api.Mode, w api.Snap, granted bool) (api.Firing, api.Mode) {
	t.Helper()
	f, next, no := machine.Turn(y.x, m, w, granted)
	want, wantNext, wantNo := mean.Turn(y.s, m, w, granted)
	steps := f.Steps
	f.Steps = 0
	if !sameFiring(f, want) || !sameMode(next, wantNext) || no != api.OK || wantNo != api.OK {
		t.Errorf("%s with %v, %v, %t is %+v, %v, %d; by its text %+v, %v, %d", short(y.s), m, w, granted, f, next, no, want, wantNext, wantNo)
	}
	if most := y.costs[m.State]; steps > most.Steps || len(f.Actions) > most.Acts {
		t.Errorf("%s has %d steps, %d actions; its cost is %v", short(y.s), steps, len(f.Actions), most)
	}
	f.Steps = steps
	return f, next
}

// THE TABLE IS THE TEXT: from the beginning on, and from any mode, with any snapshot, granted or not.
func TestTheTableIsTheText(t *testing.T) {
	reached := map[string]int{}
	met := 0
	all := lowered(t, 4000000, 3000)
	for k, y := range all {
		d := drawer{below: draw(uint64(4500000 + k))}
		m, no := machine.Start(y.x)
		if want, wantNo := mean.Start(y.s); !sameMode(m, want) || no != api.OK || wantNo != api.OK {
			t.Fatalf("%s begins with %v, %d; by its text with %v, %d", short(y.s), m, no, want, wantNo)
		}
		for range 16 {
			state := m.State
			f, next := expectText(t, y, m, d.snap(0), d.below(4) > 0)
			reached[outcome(f, api.OK)]++
			if f.Rule >= 0 && f.Steps == y.costs[state].Steps {
				met++
			}
			m = next
			if f.Status != api.Running || d.below(3) == 0 {
				m = d.modeOf()
			}
		}
	}
	expectReached(t, reached, 200, "nothing", "fires", "fires actions", "halts", "halts actions", "refused", "faults 10", "faults 11", "faults 170")
	if len(all) < 2000 || met < 200 || reached["faults 201"] > 0 {
		t.Errorf("%d texts; %d times all steps were needed; %v", len(all), met, reached)
	}
}

// The same of each expression of a strategy: a span's value is that of the node that stands there.
func TestSpansAreTheExpressions(t *testing.T) {
	reached := map[api.Errno]int{}
	for k, y := range lowered(t, 5000000, 700) {
		d := drawer{below: draw(uint64(5500000 + k))}
		spans := spansOf(y.x)
		for _, state := range y.s.States {
			for _, r := range state.Rules {
				nodes := []api.Node{r.When}
				for _, x := range r.Dos {
					nodes = append(nodes, slices.DeleteFunc([]api.Node{x.Side, x.Qty, x.Price, x.Value}, func(n api.Node) bool { return n.Kind == 0 })...)
				}
				for _, n := range nodes {
					s := spans[0]
					spans = spans[1:]
					m, w := d.modeOf(), d.snap(0)
					is, steps, no := machine.Value(y.x, s, m, w)
					if want, wantNo := mean.Value(y.s, n, m, w); is != want || no != wantNo {
						t.Errorf("%s with %v, %v is %d, %d; by its tree %d, %d", short(n), m, w, is, no, want, wantNo)
					}
					if steps < 1 || steps > cost.Expr(n) {
						t.Errorf("%s has %d steps, and weighs %d", short(n), steps, cost.Expr(n))
					}
					reached[no]++
				}
			}
		}
		if len(spans) > 0 {
			t.Errorf("%d spans are left", len(spans))
		}
	}
	expectReached(t, reached, 100, api.OK, over, zero, absent)
}

// WHAT MAY BE RUNS: within table.Bound, whoever made it; and some need all of it.
func TestWhatMayBeRunsWithinItsBound(t *testing.T) {
	all := drawnTables(6000000, 6000)
	for _, y := range lowered(t, 6500000, 500) {
		all = append(all, y.x)
	}
	ran, met, acts := 0, 0, 0
	for k, x := range all {
		most, no := table.Bound(x)
		if no != api.OK {
			continue
		}
		d := drawer{below: draw(uint64(6600000 + k))}
		for range 8 {
			f, _, no := machine.Turn(x, d.mode(x, 0), d.snap(0), d.below(4) > 0)
			if no != api.OK || f.Steps < 0 || f.Steps > most.Steps || len(f.Actions) > most.Acts {
				t.Errorf("%s is %+v, %d; its bound is %v", short(x), f, no, most)
			}
			ran++
			if f.Steps == most.Steps && f.Steps > 0 {
				met++
			}
			if len(f.Actions) == most.Acts && most.Acts > 0 {
				acts++
			}
		}
	}
	if ran < 30000 || met < 150 || acts < 500 {
		t.Errorf("%d turns, %d of which needed all steps, %d all actions", ran, met, acts)
	}
}

// The bound and the cost are met: by a state whose guards are all run, and whose last one does the most.
func TestBoundsThatAreMet(t *testing.T) {
	x := laid([]rule{when("num 0, num 1, mul", set(0, "num 1")), when("num 0, not", submit(api.Limit, 0, "num 1", "num 2, neg", "num 3"), cancel(1), amend(2, "num 1", "num 2"), halt())})
	expectFires(t, x, begun(), api.Snap{}, halts(3+2+4+2, 1, api.Action{Act: api.ActSubmit, Kind: api.Limit, Side: api.Buy, Qty: -2, Price: 3}, api.Action{Act: api.ActCancel, Slot: 1}, api.Action{Act: api.ActAmend, Qty: 1, Price: 2, Slot: 2}), begun())
	if most, no := table.Bound(x); most != (api.Cost{Steps: 11, Acts: 3}) || no != api.OK {
		t.Error(most, no)
	}
	y := expectLowered(t, "strategy s { reg n int = 0; slot o; state a { when n > 5 do halt; when has bid && bid > 1p do submit buy of qty(n + 1) at bid limit as o, cancel o; } }")
	f, _ := expectText(t, y, mode(0, 0), api.Snap{Bid: 9}, true)
	if f.Steps != 3+5+5 || y.costs[0] != (api.Cost{Steps: 13, Acts: 2}) || len(f.Actions) != 2 {
		t.Error(f, y.costs)
	}
}

// expectLowered is a text that lower takes.
func expectLowered(t *testing.T, source string) text {
	t.Helper()
	s, err := parse.Strategy(source)
	if err != nil {
		t.Fatal(err)
	}
	x, err := lower.Strategy(s)
	if err != nil {
		t.Fatal(err)
	}
	costs, err := cost.States(s)
	if err != nil {
		t.Fatal(err)
	}
	return text{s, x, costs}
}

// A mode of a table is one behind every turn: from the beginning on, and from any, granted or not, whatever comes of it.
func TestAModeIsOneBehindEveryTurn(t *testing.T) {
	turns, changed, states := 0, 0, 0
	for k, x := range drawnTables(7000000, 4000) {
		if table.Check(x) != api.OK {
			continue
		}
		d := drawer{below: draw(uint64(7500000 + k))}
		m, no := machine.Start(x)
		if no != api.OK || modelWrong(x, m, api.Snap{}) != api.OK {
			t.Fatalf("Start(%s) is %v, %d", short(x), m, no)
		}
		for range 12 {
			f, next, no := machine.Turn(x, m, d.snap(0), d.below(3) > 0)
			if no != api.OK || modelWrong(x, next, api.Snap{}) != api.OK {
				t.Fatalf("behind Turn(%s) with %v the mode is %v, %d", short(x), m, next, no)
			}
			if (f.Rule < 0 || f.Refused) && !sameMode(m, next) {
				t.Errorf("%s: %+v, and the mode is %v behind %v", short(x), f, next, m)
			}
			turns++
			if !slices.Equal(m.Regs, next.Regs) {
				changed++
			}
			if m.State != next.State {
				states++
			}
			if m = next; d.below(2) == 0 {
				m = d.mode(x, 0)
			}
		}
	}
	if turns < 10000 || changed < 1000 || states < 200 {
		t.Errorf("%d turns, %d of which changed registers, %d states", turns, changed, states)
	}
}

// What a turn does is what Value says of its spans: steps, guards in order, faults, and what the one rule lets out, as long as nothing is set.
func TestTurnsAreOfValues(t *testing.T) {
	fired := 0
	for k, x := range drawnTables(8000000, 2500) {
		if table.Check(x) != api.OK {
			continue
		}
		d := drawer{below: draw(uint64(8500000 + k))}
		for range 6 {
			m, w := d.mode(x, 0), d.snap(0)
			f, _, _ := machine.Turn(x, m, w, true)
			steps, ended := 0, false
			for e, g := range x.States[m.State] {
				is, more, no := machine.Value(x, g.When, m, w)
				steps += more
				if no != api.OK {
					if !sameFiring(f, faults(steps, no)) {
						t.Errorf("a guard faults by %d in %d steps; %+v", no, steps, f)
					}
					ended = true
					break
				}
				if is != 0 {
					fired++
					if f.Rule != e && f.Status != api.Faulted || f.Steps < steps {
						t.Errorf("the guard %d holds; %+v", e, f)
					}
					ended = true
					break
				}
			}
			if !ended && !sameFiring(f, nothing(steps)) {
				t.Errorf("no guard holds, in %d steps; %+v", steps, f)
			}
		}
	}
	if fired < 1000 {
		t.Errorf("only %d fired", fired)
	}
}

// Tables that went through bytes run as they did.
func TestTablesOutOfBytes(t *testing.T) {
	for k, x := range drawnTables(9000000, 400) {
		b, no := table.Encode(x)
		if no != api.OK {
			continue
		}
		y, no := table.Decode(b)
		if no != api.OK {
			t.Fatal(no)
		}
		d := drawer{below: draw(uint64(k))}
		for range 4 {
			m, w := d.mode(x, 0), d.snap(0)
			f, next, _ := machine.Turn(x, m, w, true)
			expectTurn(t, y, m, w, true, f, next)
		}
	}
}
