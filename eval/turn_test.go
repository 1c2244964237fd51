package eval_test

import (
	"fmt"
	"slices"
	"strconv"
	"testing"

	"tripwire/api"
)

// Turns: which guard is the one, what its rows do, what a grant has to say in it, and in how many steps.

func TestStatesWithoutGuards(t *testing.T) {
	for _, x := range []api.Table{smallest(), laid(nil, []rule{when("num 1", halt())})} {
		r := started(t, x, seen())
		for n := range int64(4) {
			expectTurn(t, r, true, nothing(0), bid(n), now(100+n))
		}
		expectStatus(t, r, api.Running, api.OK)
	}
}

// saying is a guard that does not hold, holds, or has a fault; with its steps.
func saying(what int) (string, int) {
	if what >= 2 {
		return faulty(everyFault[what-2])
	}
	return "num " + strconv.Itoa(what) + ", neg", 2
}

// Whatever each of three guards says: the first that holds fires, if no fault stands ahead of it; those behind it are not run.
func TestWhichGuardIsTheOne(t *testing.T) {
	for all := range 125 {
		var rules []rule
		want, next, known, steps, over := nothing(0), begun(), "", 0, false
		for k, what := range []int{all % 5, all / 5 % 5, all / 25} {
			text, more := saying(what)
			rules = append(rules, when(text, set(0, "num "+strconv.Itoa(100+k)+", abs")))
			if over {
				known += " -"
				continue
			}
			steps += more
			switch want = nothing(steps); {
			case what == 1:
				want, next, over, known = fires(steps+2, k), mode(0, int64(100+k), -6, 7), true, known+" -1"
			case what >= 2:
				want, over, known = faults(steps, everyFault[what-2]), true, known+fmt.Sprint(" !", int(everyFault[what-2]))
			default:
				known += " 0"
			}
		}
		r := started(t, laid(rules), api.Snap{})
		expectTurn(t, r, all%2 == 0, want)
		expectStanding(t, r, standing{next, want.Status, want.Code, api.Snap{}, known[1:], want.Steps})
		if want.Status == api.Running {
			// Again: only what the rule does is reckoned.
			again := nothing(0)
			if want.Rule >= 0 {
				again = fires(2, want.Rule)
			}
			expectTurn(t, r, true, again)
		}
	}
}

// As many guards as may be: each of them is the one, behind any number that do not hold.
func TestManyGuards(t *testing.T) {
	for which := range 12 {
		rules := times(12, when("num 0, field 6, mul", halt()))
		rules[which] = when("num 1", cancel(2))
		r := started(t, laid(rules), api.Snap{})
		f := fires(3*which+1, which, api.Action{Act: api.ActCancel, Slot: 2})
		expectTurn(t, r, true, f)
		f.Steps = 0
		expectTurn(t, r, true, f, bid(3))
		f.Steps = 3 * which
		expectTurn(t, r, true, f, open(3))
	}
}

// Only the guards of the state at hand are run.
func TestOnlyTheStateAtHand(t *testing.T) {
	x := laid([]rule{when("num 1", set(0, "num 9"), goTo(2))}, []rule{when("num 1, num 0, div", halt())}, []rule{when("num 0", halt()), when("num 1", set(0, "num 8"))})
	r := started(t, x, api.Snap{})
	expectTurn(t, r, true, fires(2, 0))
	expectStanding(t, r, standing{mode(2, 9, -6, 7), api.Running, api.OK, api.Snap{}, "1 | - | - -", 2})
	expectTurn(t, r, true, fires(3, 1))
	expectStanding(t, r, standing{mode(2, 8, -6, 7), api.Running, api.OK, api.Snap{}, "1 | - | 0 1", 5})
	for to := 1; to < 12; to++ {
		states := make([][]rule, 12)
		states[0] = []rule{when("num 1", goTo(to))}
		states[to] = []rule{when("num 0", halt()), when("num 1", goTo((to+5)%12))}
		r := started(t, laid(states...), api.Snap{})
		expectTurn(t, r, true, fires(1, 0))
		expectMode(t, r, mode(to, 5, -6, 7))
		expectTurn(t, r, true, fires(2, 1))
		expectMode(t, r, mode((to+5)%12, 5, -6, 7))
	}
}

// deed is a row, with its steps, what it lets out and what it does to the mode as it begins, with what seen sees.
type deed struct {
	row     thing
	steps   int
	actions []api.Action
	behind  api.Mode
	halted  bool
}

// deedsOfEach are rows of each kind: submits of each Order, of each slot and without one.
func deedsOfEach() []deed {
	all := []deed{
		{amend(1, "num 2", "num 3"), 2, []api.Action{{Act: api.ActAmend, Qty: 2, Price: 3, Slot: 1}}, begun(), false},
		{amend(2, "field 6, reg 0, sub", "reg 1, field 2, sub"), 6, []api.Action{{Act: api.ActAmend, Qty: 50, Price: -19, Slot: 2}}, begun(), false},
		{cancel(1), 0, []api.Action{{Act: api.ActCancel, Slot: 1}}, begun(), false},
		{cancel(2), 0, []api.Action{{Act: api.ActCancel, Slot: 2}}, begun(), false},
		{set(0, "reg 0, num 41, add"), 3, nil, mode(0, 46, -6, 7), false},
		{set(1, "field 4"), 1, nil, mode(0, 5, 1001, 7), false},
		{set(2, "has 1, not"), 2, nil, mode(0, 5, -6, 0), false},
		{goTo(1), 0, nil, mode(1, 5, -6, 7), false},
		{goTo(0), 0, nil, begun(), false},
		{halt(), 0, nil, begun(), true},
	}
	for order := api.Limit; order <= api.Post; order++ {
		for slot := range 3 {
			for side, text := range []string{"reg 0, num 4, sub", "num 2"} {
				d := deed{submit(order, slot, text, "field 6, reg 2, add", "field 3"), 5 + 2*(1-side), []api.Action{{Act: api.ActSubmit, Kind: order, Side: api.Side(side + 1), Qty: 62, Price: 12, Slot: slot}}, begun(), false}
				if order == api.Market {
					d.row, d.actions[0].Price = market(slot, text, "field 6, reg 2, add"), 0
					d.steps--
				}
				all = append(all, d)
			}
		}
	}
	return all
}

func ends(x thing) bool { return x.row.Kind >= api.DoGoto }

// expectBody tells what a guard of one step with these rows comes to, granted; and not granted, where it is refused first, and leaves all but what is known.
func expectBody(t *testing.T, next api.Mode, l ...deed) {
	t.Helper()
	var rows []thing
	f := fires(1, 0)
	for _, x := range l {
		rows = append(rows, x.row)
		f.Steps += x.steps
		f.Actions = append(f.Actions, x.actions...)
		if x.halted {
			f.Status = api.Halted
		}
	}
	r := started(t, doing(rows...), seen())
	if n := len(f.Actions); n > 0 {
		expectTurn(t, r, false, isRefused(f.Steps, 0))
		if !slices.Equal(r.asked, []int{n}) {
			t.Errorf("grant was asked of %v; want %d", r.asked, n)
		}
		expectStanding(t, r, standing{begun(), api.Running, api.OK, seen(), "1 | ", f.Steps})
		f.Steps--
		expectTurn(t, r, true, f)
		expectStanding(t, r, standing{next, f.Status, api.OK, seen(), "1 | ", f.Steps*2 + 1})
		return
	}
	expectTurn(t, r, false, f)
	expectStanding(t, r, standing{next, f.Status, api.OK, seen(), "1 | ", f.Steps})
}

func TestEachRowAlone(t *testing.T) {
	for _, x := range deedsOfEach() {
		expectBody(t, x.behind, x)
	}
}

func TestEachRowBehindTheOthers(t *testing.T) {
	first := deed{row: cancel(2), actions: []api.Action{{Act: api.ActCancel, Slot: 2}}}
	for _, x := range deedsOfEach() {
		if ends(x.row) {
			continue
		}
		for _, y := range deedsOfEach() {
			next := y.behind
			if x.row.row.Kind == api.DoSet {
				if k := y.row.row.Kind; k == api.DoSet || k == api.DoSubmit || k == api.DoAmend {
					// What the second one reads may have been set: that is another test's.
					continue
				}
				next.Regs = x.behind.Regs
			}
			expectBody(t, next, x, y)
			expectBody(t, next, first, x, y)
		}
	}
}

// As many rows as may be, in their order; grant is asked once, of all that is let out.
func TestManyRows(t *testing.T) {
	away := api.Action{Act: api.ActCancel, Slot: 1}
	for n := 1; n <= 8; n++ {
		r := started(t, doing(append(times(n, cancel(1)), times(8-n, set(0, "reg 0, num 1, add"))...)...), api.Snap{})
		expectTurn(t, r, false, isRefused(1+3*(8-n), 0))
		if !slices.Equal(r.asked, []int{n}) {
			t.Errorf("grant was asked of %v; want %d", r.asked, n)
		}
		expectTurn(t, r, true, fires(3*(8-n), 0, times(n, away)...))
		expectMode(t, r, mode(0, 5+8-int64(n), -6, 7))
	}
	x := doing(submit(api.Limit, 2, "num 1", "num 1", "num 2"), cancel(1), set(0, "reg 0, num 1, add"), amend(2, "reg 0", "num 4"), market(0, "num 2", "reg 0, num 1, add"), cancel(2), set(0, "reg 0, num 10, mul"), goTo(0))
	r := started(t, x, api.Snap{})
	expectTurn(t, r, true, fires(1+3+3+2+4+3, 0,
		api.Action{Act: api.ActSubmit, Kind: api.Limit, Side: api.Buy, Qty: 1, Price: 2, Slot: 2}, away, api.Action{Act: api.ActAmend, Qty: 6, Price: 4, Slot: 2},
		api.Action{Act: api.ActSubmit, Kind: api.Market, Side: api.Sell, Qty: 7}, api.Action{Act: api.ActCancel, Slot: 2}))
	expectMode(t, r, mode(0, 60, -6, 7))
}

// What is set is read by what stands behind it in the same firing, and by nothing ahead of it.
func TestWhatIsSetIsReadBehindIt(t *testing.T) {
	x := doing(market(0, "num 1", "reg 0"), set(0, "reg 0, num 10, add"), market(0, "num 1", "reg 0"), set(1, "reg 0"), set(0, "reg 1, reg 0, add"), amend(1, "reg 1", "reg 0"))
	r := started(t, x, api.Snap{})
	of := func(qty int64) api.Action {
		return api.Action{Act: api.ActSubmit, Kind: api.Market, Side: api.Buy, Qty: qty}
	}
	expectTurn(t, r, true, fires(1+2+3+2+1+3+2, 0, of(5), of(15), api.Action{Act: api.ActAmend, Qty: 15, Price: 30, Slot: 1}))
	expectMode(t, r, mode(0, 30, 15, 7))
	r = started(t, doing(set(2, "reg 0"), set(0, "reg 1"), set(1, "reg 2")), api.Snap{})
	expectTurn(t, r, true, fires(4, 0))
	expectMode(t, r, mode(0, -6, 5, 5))
	r = started(t, doing(set(0, "num 2"), market(0, "reg 0", "reg 0"), set(0, "num 3"), market(0, "reg 0", "reg 0")), api.Snap{})
	expectTurn(t, r, true, faults(6, noSide))
	expectMode(t, r, begun())
}

// expectFaults tells whether a guard of one step with these rows faults so: nothing of it is done, no grant is asked, and what the guard came to is known.
func expectFaults(t *testing.T, w api.Snap, steps int, no api.Errno, rows ...thing) {
	t.Helper()
	for _, granted := range []bool{true, false} {
		r := started(t, doing(rows...), w)
		expectTurn(t, r, granted, faults(1+steps, no))
		expectStanding(t, r, standing{begun(), api.Faulted, no, w, "1 | ", 1 + steps})
		expectTurn(t, r, granted, faults(0, no), bid(9))
		expectStanding(t, r, standing{begun(), api.Faulted, no, w, "1 | ", 1 + steps})
	}
}

// A fault in each span of each row, at the first row and at later ones.
func TestFaultsInRows(t *testing.T) {
	for _, no := range everyFault {
		bad, more := faulty(no)
		for _, x := range []deed{
			{row: set(0, bad)}, {row: set(2, bad)},
			{row: submit(api.Limit, 1, bad, "num 1", "num 1")}, {row: submit(api.Post, 0, "num 2", bad, "num 1"), steps: 1}, {row: submit(api.All, 2, "num 1", "num 1", bad), steps: 2},
			{row: market(1, bad, "num 1")}, {row: market(0, "num 1", bad), steps: 1}, {row: amend(1, bad, "num 1")}, {row: amend(2, "num 1", bad), steps: 1},
		} {
			steps := x.steps + more
			expectFaults(t, api.Snap{}, steps, no, x.row)
			expectFaults(t, api.Snap{}, steps, no, x.row, halt())
			expectFaults(t, api.Snap{}, steps, no, x.row, goTo(1))
			for _, ahead := range deedsOfEach() {
				if ends(ahead.row) || no == absent {
					continue
				}
				expectFaults(t, seen(), ahead.steps+steps, no, ahead.row, x.row)
				expectFaults(t, seen(), ahead.steps+steps, no, ahead.row, cancel(1), x.row, ahead.row)
			}
			expectFaults(t, api.Snap{}, 3+steps, no, set(1, "num 4"), market(1, "num 2", "num 3"), x.row, cancel(1))
			// Behind a guard that does not hold, ahead of one that does; and where another one is the one.
			r := started(t, laid([]rule{when("num 0", halt()), when("num 1", set(1, "num 9"), x.row), when("num 1", halt())}), api.Snap{})
			expectTurn(t, r, true, faults(3+steps, no))
			expectKnows(t, r, "0 1 -")
			r = started(t, laid([]rule{when("num 0", x.row), when("num 1", halt()), when("num 1", x.row)}), api.Snap{})
			expectTurn(t, r, true, halts(2, 1))
			// The first of two faults.
			for _, other := range everyFault {
				second, otherMore := faulty(other)
				expectFaults(t, api.Snap{}, steps, no, x.row, set(0, second))
				expectFaults(t, api.Snap{}, 1+otherMore, other, market(0, "num 1", second), x.row)
				expectFaults(t, api.Snap{}, otherMore, other, amend(1, second, bad))
				expectFaults(t, api.Snap{}, otherMore, other, submit(api.Now, 0, second, bad, bad))
				expectFaults(t, api.Snap{}, 1+otherMore, other, submit(api.Now, 0, "num 1", second, bad))
			}
		}
	}
}

// A fault in rows whose guard was known: its steps are those of the rows alone.
func TestFaultsBehindKnownGuards(t *testing.T) {
	x := doing(cancel(1), set(0, "reg 0, num 1, add"), set(1, "num 10, field 6, num 3, sub, div"))
	r := started(t, x, api.Snap{})
	expectTurn(t, r, true, fires(9, 0, api.Action{Act: api.ActCancel, Slot: 1}))
	expectTurn(t, r, false, isRefused(8, 0), open(2))
	expectTurn(t, r, true, faults(8, zero), open(1))
	expectStanding(t, r, standing{mode(0, 6, -3, 7), api.Faulted, zero, api.Snap{Open: 3}, "1 | ", 25})
}

// A Side that is not 1 or 2 is a fault, ahead of Qty and its faults; that of its own span comes first.
func TestSides(t *testing.T) {
	for _, n := range append(edges(), 4, 255, 257, 258, 1<<32+1, 1<<32+2, -255, -254) {
		for order := api.Limit; order <= api.Post; order++ {
			of := func(side, qty, price string) thing {
				if order == api.Market {
					return market(1, side, qty)
				}
				return submit(order, 1, side, qty, price)
			}
			side := "num " + strconv.FormatInt(n, 10)
			if n == 1 || n == 2 {
				want := api.Action{Act: api.ActSubmit, Kind: order, Side: api.Side(n), Qty: 5, Price: -6, Slot: 1}
				steps := 4
				if order == api.Market {
					want.Price, steps = 0, 3
				}
				expectTurn(t, started(t, doing(of(side, "reg 0", "reg 1")), api.Snap{}), true, fires(steps, 0, want))
				expectFaults(t, api.Snap{}, 4, zero, of(side, "num 1, num 0, div", "reg 1"))
				continue
			}
			expectFaults(t, api.Snap{}, 1, noSide, of(side, "reg 0", "reg 1"))
			expectFaults(t, api.Snap{}, 1, noSide, of(side, "num 1, num 0, div", "field 1"))
			expectFaults(t, api.Snap{}, 2, noSide, set(1, "num 4"), cancel(1), of(side, "field 1", "field 1"), halt())
		}
		// An amend and a set have no side.
		r := started(t, doing(set(0, "num "+strconv.FormatInt(n, 10)), amend(1, "reg 0", "reg 0")), api.Snap{})
		expectTurn(t, r, true, fires(4, 0, api.Action{Act: api.ActAmend, Qty: n, Price: n, Slot: 1}))
	}
	expectFaults(t, api.Snap{}, 3, zero, market(0, "num 1, num 0, div", "num 1"))
	expectFaults(t, api.Snap{}, 1, noSide, market(0, "num 3", "num 1"), set(0, "num 1, num 0, div"))
}

// A halt, alone, with what is set and let out ahead of it, and with what its registers make be forgotten.
func TestHalts(t *testing.T) {
	away := api.Action{Act: api.ActCancel, Slot: 1}
	x := laid([]rule{when("has 1", set(0, "num 8"), halt()), when("has 2", cancel(1), halt()), when("reg 0, num 0, mul, has 3, add", goTo(1))}, []rule{when("num 1", set(1, "num 9"), halt())})
	r := started(t, x, api.Snap{})
	expectTurn(t, r, true, nothing(7))
	expectTurn(t, r, false, isRefused(1, 1), ask(1))
	expectStanding(t, r, standing{begun(), api.Running, api.OK, api.Snap{Ask: 1}, "0 1 0 | -", 8})
	expectTurn(t, r, true, halts(0, 1, away))
	expectStanding(t, r, standing{begun(), api.Halted, api.OK, api.Snap{Ask: 1}, "0 1 0 | -", 8})
	r.Start()
	expectTurn(t, r, true, fires(7, 2), ask(0), trade(1, 1))
	expectStanding(t, r, standing{mode(1, 5, -6, 7), api.Running, api.OK, api.Snap{Last: 1, Volume: 1}, "0 0 1 | -", 15})
	expectTurn(t, r, true, halts(2, 0))
	expectStanding(t, r, standing{mode(1, 5, 9, 7), api.Halted, api.OK, api.Snap{Last: 1, Volume: 1}, "0 0 1 | 1", 17})
}

// Behind a halt that sets a register what its guards read is known no more.
func TestHaltsForget(t *testing.T) {
	x := laid([]rule{when("reg 0, num 0, mul", halt()), when("reg 1, num 0, mul", halt()), when("num 1", set(0, "num 8"), set(1, "num -6"), halt())})
	r := started(t, x, api.Snap{})
	expectTurn(t, r, true, halts(9, 2))
	expectStanding(t, r, standing{mode(0, 8, -6, 7), api.Halted, api.OK, api.Snap{}, "- 0 1", 9})
}

// A halt that faults, or is refused, is none.
func TestHaltsThatAreNotDone(t *testing.T) {
	r := started(t, doing(cancel(1), halt()), api.Snap{})
	for range 3 {
		r.turn(false)
		expectStatus(t, r, api.Running, api.OK)
	}
	r = started(t, doing(set(0, "num 1, num 0, mod"), halt()), api.Snap{})
	expectTurn(t, r, true, faults(4, zero))
	expectStatus(t, r, api.Faulted, zero)
}

// What an action asks for is told as it is, whether the market would take it or not.
func TestActionsOfAnyNumbers(t *testing.T) {
	for _, a := range edges() {
		for _, b := range edges() {
			x := doing(submit(api.Post, 2, "reg 0", "reg 1", "reg 2"), amend(2, "reg 1", "reg 2"), market(0, "reg 0", "reg 2"))
			x.Regs = []int64{2, a, b}
			expectTurn(t, started(t, x, api.Snap{}), true, fires(8, 0,
				api.Action{Act: api.ActSubmit, Kind: api.Post, Side: api.Sell, Qty: a, Price: b, Slot: 2}, api.Action{Act: api.ActAmend, Qty: a, Price: b, Slot: 2}, api.Action{Act: api.ActSubmit, Kind: api.Market, Side: api.Sell, Qty: b}))
		}
	}
}

// A grant may say now yes, now no; it is asked of each firing by itself, and of none that lets nothing out.
func TestGrants(t *testing.T) {
	x := laid(
		[]rule{when("reg 0, num 8, lt", set(0, "reg 0, num 1, add"), cancel(1), cancel(2)), when("num 1", goTo(1))},
		[]rule{when("reg 0, num 8, eq", set(0, "num 0"), halt())},
	)
	r := started(t, x, api.Snap{})
	both := []api.Action{{Act: api.ActCancel, Slot: 1}, {Act: api.ActCancel, Slot: 2}}
	for n := int64(6); n <= 8; n++ {
		expectTurn(t, r, false, isRefused(6, 0))
		if !slices.Equal(r.asked, []int{2}) {
			t.Errorf("grant was asked of %v", r.asked)
		}
		expectTurn(t, r, false, isRefused(3, 0))
		expectTurn(t, r, true, fires(3, 0, both...))
		expectMode(t, r, mode(0, n, -6, 7))
	}
	expectTurn(t, r, false, fires(4, 1))
	if f := r.Turn(nil, nil); !sameFiring(f, halts(4, 0)) {
		t.Error(f)
	}
	expectStanding(t, r, standing{mode(1, 0, -6, 7), api.Halted, api.OK, api.Snap{}, "- 1 | -", 3*12 + 8})
}

// While a grant is asked nothing of what the rule does is done: the mode and the stand are those ahead of it, the snapshot is the one that was folded.
func TestWhatAGrantSees(t *testing.T) {
	r := started(t, laid([]rule{when("reg 0, has 1, mul", set(0, "num 9"), cancel(1), halt())}), api.Snap{})
	for _, granted := range []bool{false, true} {
		asked := 0
		f := r.Turn([]api.Feed{bid(3)}, func(n int) bool {
			asked += n
			expectMode(t, r, begun())
			expectStatus(t, r, api.Running, api.OK)
			expectKnows(t, r, "5")
			if w := r.Snap(); w != (api.Snap{Bid: 3}) {
				t.Error(w)
			}
			return granted
		})
		if asked != 1 || f.Refused == granted {
			t.Error(asked, f)
		}
	}
	expectStanding(t, r, standing{mode(0, 9, -6, 7), api.Halted, api.OK, api.Snap{Bid: 3}, "-", 5})
}

// Steps of a Turn are those made in it; Steps are all that were ever made: by turns that fire, that do not, that fault, that are refused; Start and Stop leave them.
func TestSteps(t *testing.T) {
	r := made(t, standsTable(), api.Snap{})
	sum := 0
	turn := func(want int, granted bool, batch ...api.Feed) {
		t.Helper()
		f := r.turn(granted, batch...)
		sum += want
		if f.Steps != want || r.Steps() != sum {
			t.Errorf("%+v, %d in all; want %d, %d", f, r.Steps(), want, sum)
		}
	}
	turn(0, true)
	r.Start()
	turn(10, true)
	turn(0, true)
	turn(5, true, now(5))
	turn(3+3, false, open(4))
	turn(3, false)
	turn(3, true)
	turn(3, true)
	turn(0, true)
	r.Stop()
	turn(0, true)
	r.Start()
	turn(7, true, now(7))
	turn(0, true)
	r.Start()
	turn(0, true, now(6))
	r.Start()
	turn(6, true, ask(3))
	r.Start()
	turn(2, true, bid(3))
	turn(0, true)
}
