package machine_test

import (
	"strconv"
	"testing"

	"tripwire/api"
)

// Turns: which guard is the one, what its rows do, and in how many steps.

func TestStatesWithoutGuards(t *testing.T) {
	for _, w := range []api.Snap{{}, seen()} {
		expectStays(t, smallest(), api.Mode{}, w, nothing(0))
		expectStays(t, laid(nil, []rule{when("num 1", halt())}), begun(), w, nothing(0))
		expectStays(t, doing(halt()), mode(1, 1, 2, 3), w, nothing(0))
	}
}

// A guard holds, if its value is not 0.
func TestWhenAGuardHolds(t *testing.T) {
	for _, n := range edges() {
		x := laid([]rule{when("reg 0", set(1, "num 9")), when("num 1", set(1, "num 10"))})
		if n == 0 {
			expectFires(t, x, mode(0, n, 0, 0), seen(), fires(3, 1), mode(0, n, 10, 0))
			continue
		}
		expectFires(t, x, mode(0, n, 0, 0), seen(), fires(2, 0), mode(0, n, 9, 0))
	}
}

// saying is a guard that does not hold, holds, or has a fault; with its steps.
func saying(what int) (string, int) {
	if what >= 2 {
		return faulty(everyFault[what-2])
	}
	return "num " + strconv.Itoa(what) + ", neg", 2
}

// Whatever each of three guards says: the first that holds fires, if no fault stands ahead of it; those behind it are not run.
func TestWhichGuardIsTheOne(t *testing.T) {
	for all := range 125 {
		var rules []rule
		want, next, steps, ended := nothing(0), begun(), 0, false
		for k, what := range []int{all % 5, all / 5 % 5, all / 25} {
			text, more := saying(what)
			rules = append(rules, when(text, set(0, "num "+strconv.Itoa(100+k)+", abs")))
			if ended {
				continue
			}
			steps += more
			switch want = nothing(steps); {
			case what == 1:
				want, next, ended = fires(steps+2, k), mode(0, int64(100+k), -6, 7), true
			case what >= 2:
				want, ended = faults(steps, everyFault[what-2]), true
			}
		}
		expectFires(t, laid(rules), begun(), api.Snap{}, want, next)
	}
}

// As many guards as may be: each of them is the one, behind any number that do not hold.
func TestManyGuards(t *testing.T) {
	for which := range 12 {
		rules := times(12, when("num 0, num 5, mul", halt()))
		expectStays(t, laid(rules), begun(), seen(), nothing(36))
		rules[which] = when("num 1", cancel(2))
		expectFires(t, laid(rules), begun(), seen(), fires(3*which+1, which, api.Action{Act: api.ActCancel, Slot: 2}), begun())
		for behind := which + 1; behind < 12; behind++ {
			text, _ := saying(1 + behind%4)
			rules[behind] = when(text, set(0, "num 9"))
		}
		expectFires(t, laid(rules), begun(), api.Snap{}, fires(3*which+1, which, api.Action{Act: api.ActCancel, Slot: 2}), begun())
		rules[which] = when("num 1, num 0, mod", cancel(2))
		expectStays(t, laid(rules), begun(), api.Snap{}, faults(3*which+3, zero))
	}
}

// Only the guards of the state at hand are run.
func TestOnlyTheStateAtHand(t *testing.T) {
	x := laid([]rule{when("num 1, num 0, div", halt())}, []rule{when("num 1", set(0, "reg 0, num 1, add"), goTo(2))}, []rule{when("num 0", halt()), when("num 1", set(0, "num 9"))})
	expectStays(t, x, begun(), api.Snap{}, faults(3, zero))
	expectFires(t, x, mode(1, 4, 0, 0), api.Snap{}, fires(4, 0), mode(2, 5, 0, 0))
	expectFires(t, x, mode(2, 5, 0, 0), api.Snap{}, fires(3, 1), mode(2, 9, 0, 0))
	expectNoTurn(t, x, mode(3, 5, 0, 0), api.Snap{}, noMode)
}

// deed is a row, with its steps, what it lets out and what it does to the mode as it begins, with what seen sees.
type deed struct {
	row     thing
	steps   int
	actions []api.Action
	behind  api.Mode
	halted  bool
}

// deedsOfEach are rows of each kind: submits of each Order, of each slot and without one.
func deedsOfEach() []deed {
	all := []deed{
		{amend(1, "num 2", "num 3"), 2, []api.Action{{Act: api.ActAmend, Qty: 2, Price: 3, Slot: 1}}, begun(), false},
		{amend(2, "field 6, reg 0, sub", "reg 1, field 2, sub"), 6, []api.Action{{Act: api.ActAmend, Qty: 50, Price: -19, Slot: 2}}, begun(), false},
		{cancel(1), 0, []api.Action{{Act: api.ActCancel, Slot: 1}}, begun(), false},
		{cancel(2), 0, []api.Action{{Act: api.ActCancel, Slot: 2}}, begun(), false},
		{set(0, "reg 0, num 41, add"), 3, nil, mode(0, 46, -6, 7), false},
		{set(1, "field 4"), 1, nil, mode(0, 5, 1001, 7), false},
		{set(2, "has 1, not"), 2, nil, mode(0, 5, -6, 0), false},
		{goTo(1), 0, nil, mode(1, 5, -6, 7), false},
		{goTo(0), 0, nil, begun(), false},
		{halt(), 0, nil, begun(), true},
	}
	for order := api.Limit; order <= api.Post; order++ {
		for slot := range 3 {
			for side, text := range []string{"reg 0, num 4, sub", "num 2"} {
				d := deed{submit(order, slot, text, "field 6, reg 2, add", "field 3"), 5 + 2*(1-side), []api.Action{{Act: api.ActSubmit, Kind: order, Side: api.Side(side + 1), Qty: 62, Price: 12, Slot: slot}}, begun(), false}
				if order == api.Market {
					d.row, d.actions[0].Price = market(slot, text, "field 6, reg 2, add"), 0
					d.steps--
				}
				all = append(all, d)
			}
		}
	}
	return all
}

// firing is what a guard of one step with these rows comes to.
func firing(l ...deed) api.Firing {
	f := fires(1, 0)
	for _, x := range l {
		f.Steps += x.steps
		f.Actions = append(f.Actions, x.actions...)
		if x.halted {
			f.Status = api.Halted
		}
	}
	return f
}

func ends(x thing) bool { return x.row.Kind >= api.DoGoto }

func TestEachRowAlone(t *testing.T) {
	for _, x := range deedsOfEach() {
		expectFires(t, doing(x.row), begun(), seen(), firing(x), x.behind)
	}
}

func TestEachRowBehindTheOthers(t *testing.T) {
	first := deed{cancel(2), 0, []api.Action{{Act: api.ActCancel, Slot: 2}}, begun(), false}
	for _, x := range deedsOfEach() {
		if ends(x.row) {
			continue
		}
		for _, y := range deedsOfEach() {
			next := y.behind
			if x.row.row.Kind == api.DoSet {
				if k := y.row.row.Kind; k == api.DoSet || k == api.DoSubmit || k == api.DoAmend {
					// What the second one reads may have been set: that is another test's.
					continue
				}
				next.Regs = x.behind.Regs
			}
			expectFires(t, doing(x.row, y.row), begun(), seen(), firing(x, y), next)
			expectFires(t, doing(first.row, x.row, y.row), begun(), seen(), firing(first, x, y), next)
		}
	}
}

// As many rows as may be, in their order.
func TestManyRows(t *testing.T) {
	x := doing(submit(api.Limit, 2, "num 1", "num 1", "num 2"), cancel(1), set(0, "reg 0, num 1, add"), amend(2, "reg 0", "num 4"), market(0, "num 2", "reg 0, num 1, add"), cancel(2), set(0, "reg 0, num 10, mul"), goTo(0))
	all := []api.Action{
		{Act: api.ActSubmit, Kind: api.Limit, Side: api.Buy, Qty: 1, Price: 2, Slot: 2}, {Act: api.ActCancel, Slot: 1}, {Act: api.ActAmend, Qty: 6, Price: 4, Slot: 2},
		{Act: api.ActSubmit, Kind: api.Market, Side: api.Sell, Qty: 7}, {Act: api.ActCancel, Slot: 2},
	}
	expectFires(t, x, begun(), api.Snap{}, fires(1+3+3+2+4+3, 0, all...), mode(0, 60, -6, 7))
	expectFires(t, doing(times(8, cancel(1))...), begun(), api.Snap{}, fires(1, 0, times(8, api.Action{Act: api.ActCancel, Slot: 1})...), begun())
	expectFires(t, doing(times(8, set(0, "reg 0, num 2, mul"))...), mode(0, 3, 0, 0), api.Snap{}, fires(25, 0), mode(0, 3*256, 0, 0))
}

// Every slot, register and state by its number.
func TestNumbersOfRows(t *testing.T) {
	for slots := range 5 {
		for slot := range slots + 1 {
			x := doing(market(slot, "num 1", "num 1"))
			x.Slots = slots
			expectFires(t, x, begun(), api.Snap{}, fires(3, 0, api.Action{Act: api.ActSubmit, Kind: api.Market, Side: api.Buy, Qty: 1, Slot: slot}), begun())
			if slot > 0 {
				x = doing(cancel(slot), amend(slot, "num 8", "num 9"))
				x.Slots = slots
				expectFires(t, x, begun(), api.Snap{}, fires(3, 0, api.Action{Act: api.ActCancel, Slot: slot}, api.Action{Act: api.ActAmend, Qty: 8, Price: 9, Slot: slot}), begun())
			}
		}
	}
	for regs := 1; regs <= 12; regs++ {
		for r := range regs {
			x := doing(set(r, "num -8"))
			x.Regs = times(regs, int64(3))
			next := mode(0, times(regs, int64(4))...)
			next.Regs[r] = -8
			expectFires(t, x, mode(0, times(regs, int64(4))...), api.Snap{}, fires(2, 0), next)
		}
	}
	for from := range 12 {
		for to := range 12 {
			states := make([][]rule, 12)
			states[from] = []rule{when("num 0", halt()), when("num 1", goTo(to))}
			states[(from+1)%12] = []rule{when("num 1", halt())}
			expectFires(t, laid(states...), mode(from, 1, 2, 3), api.Snap{}, fires(2, 1), mode(to, 1, 2, 3))
		}
	}
}

// A halt leaves the state; what was set ahead of it stays set. A goto and a halt can't stand in one rule, but in two.
func TestHalts(t *testing.T) {
	x := laid([]rule{when("has 1", set(0, "num 8"), halt()), when("has 2", cancel(1), halt()), when("has 3", goTo(1))}, []rule{when("num 1", set(1, "num 9"), halt())})
	expectFires(t, x, begun(), seen(), halts(2, 0), mode(0, 8, -6, 7))
	expectFires(t, x, begun(), api.Snap{Ask: 1, Last: 1}, halts(2, 1, api.Action{Act: api.ActCancel, Slot: 1}), begun())
	expectFires(t, x, begun(), api.Snap{Last: 1}, fires(3, 2), mode(1, 5, -6, 7))
	expectFires(t, x, mode(1, 5, -6, 7), api.Snap{}, halts(2, 0), mode(1, 5, 9, 7))
	for _, rows := range [][]thing{{goTo(1), halt()}, {halt(), goTo(1)}, {halt(), halt()}, {goTo(1), goTo(0)}, {goTo(0), set(0, "num 1")}} {
		expectNoTurn(t, doing(rows...), begun(), seen(), wrongForm)
	}
}

// What is set is read by what stands behind it in the same firing, and by nothing ahead of it; guards are run by then.
func TestWhatIsSetIsReadBehindIt(t *testing.T) {
	x := laid([]rule{
		when("reg 0, num 5, lt", market(0, "num 1", "reg 0"), set(0, "reg 0, num 10, add"), market(0, "num 1", "reg 0"), set(1, "reg 0"), set(0, "reg 1, reg 0, add"), amend(1, "reg 1", "reg 0")),
		when("num 1", set(1, "num 1")),
	})
	bought := func(qty int64) api.Action {
		return api.Action{Act: api.ActSubmit, Kind: api.Market, Side: api.Buy, Qty: qty}
	}
	expectFires(t, x, mode(0, 3, 4, 0), api.Snap{}, fires(3+2+3+2+1+3+2, 0, bought(3), bought(13), api.Action{Act: api.ActAmend, Qty: 13, Price: 26, Slot: 1}), mode(0, 26, 13, 0))
	expectFires(t, x, mode(0, 26, 13, 0), api.Snap{}, fires(5, 1), mode(0, 26, 1, 0))
	// Two registers change places only by a third one.
	expectFires(t, doing(set(0, "reg 1"), set(1, "reg 0")), begun(), api.Snap{}, fires(3, 0), mode(0, -6, -6, 7))
	expectFires(t, doing(set(2, "reg 0"), set(0, "reg 1"), set(1, "reg 2")), begun(), api.Snap{}, fires(4, 0), mode(0, -6, 5, 5))
	// A side that is set, and a fault by what was set.
	expectFires(t, doing(set(0, "num 2"), market(0, "reg 0", "reg 0")), begun(), api.Snap{}, fires(4, 0, api.Action{Act: api.ActSubmit, Kind: api.Market, Side: api.Sell, Qty: 2}), mode(0, 2, -6, 7))
	expectStays(t, doing(set(0, "reg 0, num 5, sub"), set(1, "num 10, reg 0, div")), begun(), api.Snap{}, faults(7, zero))
	expectFires(t, doing(set(0, "reg 0, num 5, sub"), set(1, "num 10, reg 0, div")), mode(0, 7, 0, 0), api.Snap{}, fires(7, 0), mode(0, 2, 5, 0))
	// What is set by a guard that is passed over is not.
	x = laid([]rule{when("num 0", set(0, "num 9")), when("num 1", set(1, "reg 0"))})
	expectFires(t, x, begun(), api.Snap{}, fires(3, 1), mode(0, 5, 5, 7))
}

// A fault in each span of each row: nothing of it is done, whatever stands ahead of it, granted or not; its steps are told.
func TestFaultsInRows(t *testing.T) {
	for _, no := range everyFault {
		bad, more := faulty(no)
		for _, x := range []deed{
			{row: set(0, bad)}, {row: set(2, bad)},
			{row: submit(api.Limit, 1, bad, "num 1", "num 1")}, {row: submit(api.Post, 0, "num 2", bad, "num 1"), steps: 1}, {row: submit(api.All, 2, "num 1", "num 1", bad), steps: 2},
			{row: market(1, bad, "num 1")}, {row: market(0, "num 1", bad), steps: 1}, {row: amend(1, bad, "num 1")}, {row: amend(2, "num 1", bad), steps: 1},
		} {
			steps := x.steps + more
			expectStays(t, doing(x.row), begun(), api.Snap{}, faults(1+steps, no))
			expectStays(t, doing(x.row, halt()), begun(), api.Snap{}, faults(1+steps, no))
			expectStays(t, doing(x.row, goTo(1)), begun(), api.Snap{}, faults(1+steps, no))
			for _, ahead := range deedsOfEach() {
				if ends(ahead.row) || no == absent {
					continue
				}
				expectStays(t, doing(ahead.row, x.row), begun(), seen(), faults(1+ahead.steps+steps, no))
				expectStays(t, doing(ahead.row, cancel(1), x.row, ahead.row), begun(), seen(), faults(1+ahead.steps+steps, no))
			}
			expectStays(t, doing(set(1, "num 4"), market(1, "num 2", "num 3"), x.row, cancel(1)), begun(), api.Snap{}, faults(1+3+steps, no))
			// Behind a guard that does not hold, ahead of one that does; and where another one is the one.
			expectStays(t, laid([]rule{when("num 0", halt()), when("num 1", set(1, "num 9"), x.row), when("num 1", halt())}), begun(), api.Snap{}, faults(3+steps, no))
			expectStays(t, laid([]rule{when("num 0", x.row), when("num 1", halt()), when("num 1", x.row)}), begun(), api.Snap{}, halts(2, 1))
			// The first of two faults.
			for _, other := range everyFault {
				second, otherMore := faulty(other)
				expectStays(t, doing(x.row, set(0, second)), begun(), api.Snap{}, faults(1+steps, no))
				expectStays(t, doing(market(0, "num 1", second), x.row), begun(), api.Snap{}, faults(2+otherMore, other))
			}
		}
	}
}

// Side, Qty and Price are run in this order.
func TestSideQtyPrice(t *testing.T) {
	for _, first := range everyFault {
		for _, second := range everyFault {
			a, steps := faulty(first)
			b, _ := faulty(second)
			for order := api.Limit; order <= api.Post; order++ {
				if order == api.Market {
					expectStays(t, doing(market(0, a, b)), begun(), api.Snap{}, faults(1+steps, first))
					continue
				}
				expectStays(t, doing(submit(order, 0, a, b, b)), begun(), api.Snap{}, faults(1+steps, first))
				expectStays(t, doing(submit(order, 0, a, "num 1", b)), begun(), api.Snap{}, faults(1+steps, first))
				expectStays(t, doing(submit(order, 0, "num 1", a, b)), begun(), api.Snap{}, faults(2+steps, first))
			}
			expectStays(t, doing(amend(1, a, b)), begun(), api.Snap{}, faults(1+steps, first))
		}
	}
}

// A Side that is not 1 or 2 is a fault, ahead of Qty and its faults; that of its own span comes first.
func TestSides(t *testing.T) {
	for _, n := range append(edges(), 4, 255, 257, 258, 1<<32+1, 1<<32+2, -255, -254) {
		for order := api.Limit; order <= api.Post; order++ {
			for slot := range 3 {
				of := func(side, qty, price string) thing {
					if order == api.Market {
						return market(slot, side, qty)
					}
					return submit(order, slot, side, qty, price)
				}
				m := mode(0, n, 8, 9)
				if n == 1 || n == 2 {
					want := api.Action{Act: api.ActSubmit, Kind: order, Side: api.Side(n), Qty: 8, Price: 9, Slot: slot}
					steps := 4
					if order == api.Market {
						want.Price, steps = 0, 3
					}
					expectFires(t, doing(of("reg 0", "reg 1", "reg 2")), m, api.Snap{}, fires(steps, 0, want), m)
					expectStays(t, doing(of("reg 0", "num 1, num 0, div", "reg 2")), m, api.Snap{}, faults(5, zero))
					continue
				}
				expectStays(t, doing(of("reg 0", "reg 1", "reg 2")), m, api.Snap{}, faults(2, noSide))
				expectStays(t, doing(of("reg 0, neg, neg", "num 1, num 0, div", "field 1")), mode(0, max(n, -greatest), 8, 9), api.Snap{}, faults(4, noSide))
				expectStays(t, doing(set(1, "num 4"), cancel(1), of("reg 0", "field 1", "field 1"), halt()), m, api.Snap{}, faults(3, noSide))
			}
		}
		// It is a row's business: of the span itself it is a value, and an amend and a set have none.
		x := doing(market(0, "reg 0", "num 1"))
		expectValue(t, x, span(1, 2), mode(0, n, 0, 0), api.Snap{}, result{n, 1, api.OK})
		expectFires(t, doing(amend(1, "reg 0", "reg 0")), mode(0, n, 0, 0), api.Snap{}, fires(3, 0, api.Action{Act: api.ActAmend, Qty: n, Price: n, Slot: 1}), mode(0, n, 0, 0))
	}
	expectStays(t, doing(market(0, "num 1, num 0, div", "num 1")), begun(), api.Snap{}, faults(4, zero))
	expectStays(t, doing(market(0, "num 3", "num 1"), set(0, "num 1, num 0, div")), begun(), api.Snap{}, faults(2, noSide))
	expectStays(t, doing(set(0, "num 1, num 0, div"), market(0, "num 3", "num 1")), begun(), api.Snap{}, faults(4, zero))
	// A bad side that is not reckoned does no harm.
	expectFires(t, doing(market(0, "has 1, else 4, num 3, jump 5, num 2", "num 1")), begun(), api.Snap{}, fires(5, 0, api.Action{Act: api.ActSubmit, Kind: api.Market, Side: api.Sell, Qty: 1}), begun())
	expectStays(t, doing(market(0, "has 1, else 4, num 3, jump 5, num 2", "num 1")), begun(), seen(), faults(5, noSide))
	expectStays(t, laid([]rule{when("has 1", market(0, "num 0", "num 1")), when("num 1", halt())}), begun(), api.Snap{}, halts(2, 1))
}

// What is not granted: a firing with an action is refused whole, wherever the action stands; one without an action does not hang on it; a fault comes ahead. Its steps are told as if it had been granted.
func TestNotGranted(t *testing.T) {
	for _, x := range deedsOfEach() {
		if len(x.actions) == 0 {
			expectTurn(t, doing(x.row), begun(), seen(), false, firing(x), x.behind)
			continue
		}
		nine := deed{row: set(1, "num 9"), steps: 1}
		for _, l := range [][]deed{{x}, {x, {row: halt()}}, {x, {row: goTo(1)}}, {nine, x}, {x, nine}, {nine, x, nine, {row: goTo(1)}}, {nine, x, x, {row: halt()}}} {
			var rows []thing
			steps := 0
			for _, y := range l {
				rows, steps = append(rows, y.row), steps+y.steps
			}
			expectTurn(t, doing(rows...), begun(), seen(), false, isRefused(1+steps, 0), begun())
			expectTurn(t, laid([]rule{when("num 0", halt()), when("num 1", rows...), when("num 1", halt())}, nil), begun(), seen(), false, isRefused(2+steps, 1), begun())
			expectStays(t, doing(append(rows[:1:1], set(0, "num 9223372036854775807, num 1, add"))...), begun(), seen(), faults(1+l[0].steps+3, over))
		}
	}
	// That another guard has an action does not matter.
	x := laid([]rule{when("has 1", cancel(1)), when("num 1", set(0, "num 9"), goTo(1))}, nil)
	expectTurn(t, x, begun(), api.Snap{}, false, fires(3, 1), mode(1, 9, -6, 7))
	expectTurn(t, x, begun(), seen(), false, isRefused(1, 0), begun())
}

// What an action asks for is told as it is, whether the market would take it or not.
func TestActionsOfAnyNumbers(t *testing.T) {
	for _, a := range edges() {
		for _, b := range edges() {
			m := mode(0, 2, a, b)
			for order := api.Limit; order <= api.Post; order++ {
				want := api.Action{Act: api.ActSubmit, Kind: order, Side: api.Sell, Qty: a, Price: b}
				if order == api.Market {
					want.Price = 0
					expectFires(t, doing(market(0, "reg 0", "reg 1")), m, api.Snap{}, fires(3, 0, want), m)
					continue
				}
				expectFires(t, doing(submit(order, 0, "reg 0", "reg 1", "reg 2")), m, api.Snap{}, fires(4, 0, want), m)
			}
			expectFires(t, doing(amend(2, "reg 1", "reg 2")), m, api.Snap{}, fires(3, 0, api.Action{Act: api.ActAmend, Qty: a, Price: b, Slot: 2}), m)
			expectFires(t, doing(set(0, "reg 1"), set(1, "reg 2")), m, api.Snap{}, fires(3, 0), mode(0, a, b, b))
		}
	}
}

// What the table begins with does not matter to a turn: the mode says what registers hold.
func TestBeginningsDoNotMatterToTurns(t *testing.T) {
	x := exampleU()
	for _, n := range edges() {
		x.Regs[0] = n
		expectStart(t, x, n)
		expectFires(t, x, mode(0, -2), api.Snap{Bid: 9}, fires(11, 0, api.Action{Act: api.ActSubmit, Kind: api.Limit, Side: api.Buy, Qty: 2, Price: 9, Slot: 1}), mode(1, -1))
	}
}

// One turn behind the other: each begins where the one ahead ended, and counts its own steps.
func TestTurnsBehindOneAnother(t *testing.T) {
	x := laid(
		[]rule{when("reg 0, num 8, lt", set(0, "reg 0, num 1, add"), cancel(1)), when("num 1", goTo(1))},
		[]rule{when("reg 0, num 8, eq", set(0, "num 0"), halt())},
	)
	m := begun()
	for n := int64(6); n <= 8; n++ {
		next := mode(0, n, -6, 7)
		expectTurn(t, x, m, api.Snap{}, false, isRefused(6, 0), m)
		expectTurn(t, x, m, api.Snap{}, true, fires(6, 0, api.Action{Act: api.ActCancel, Slot: 1}), next)
		m = next
	}
	expectFires(t, x, m, api.Snap{}, fires(4, 1), mode(1, 8, -6, 7))
	expectFires(t, x, mode(1, 8, -6, 7), api.Snap{}, halts(4, 0), mode(1, 0, -6, 7))
	expectStays(t, x, mode(1, 0, -6, 7), api.Snap{}, nothing(3))
}
