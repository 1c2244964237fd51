package mean_test

import (
	"testing"

	"tripwire/api"
)

// Turns: which rule is the one, and what it does.

func truly() api.Node { return lit(tBool, 1) }

func falsely() api.Node { return lit(tBool, 0) }

// saying is a guard that is so, is not, or has a fault.
func saying(what int) api.Node {
	if what >= 2 {
		return faultyOf(tBool, everyFault[what-2])
	}
	return lit(tBool, int64(what))
}

func TestStatesWithoutRules(t *testing.T) {
	for _, s := range []api.Strategy{smallest(), strategy(t, "strategy s { slot o; state a {} state b { when true do halt; } }")} {
		expectStays(t, s, mode(0), api.Snap{}, nothing())
		expectStays(t, s, mode(0), seen(), nothing())
	}
	s := full(rule(truly(), halt()))
	expectStays(t, s, mode(1, begun().Regs...), seen(), nothing())
	s.States[1].Rules = []api.Rule{}
	expectStays(t, s, mode(1, 9, 8, 7, 6, 0, 1), api.Snap{}, nothing())
}

// Whatever each of three guards says: the first that is 1 fires, if no fault stands ahead of it.
func TestWhichRuleIsTheOne(t *testing.T) {
	for code := range 125 {
		said := []int{code % 5, code / 5 % 5, code / 25}
		var rules []api.Rule
		want, behind := nothing(), begun()
		for k := len(said) - 1; k >= 0; k-- {
			switch {
			case said[k] == 1:
				want, behind = fires(k), with("i", int64(100+k))
			case said[k] >= 2:
				want, behind = faults(everyFault[said[k]-2]), begun()
			}
		}
		for k, what := range said {
			rules = append(rules, rule(saying(what), set("i", num(int64(100+k)))))
		}
		expectFires(t, full(rules...), begun(), api.Snap{}, want, behind)
	}
}

// As many rules as may be: each of them is the one, behind any number of guards that are not so.
func TestManyRules(t *testing.T) {
	for which := range 12 {
		rules := times(12, rule(falsely(), halt()))
		expectStays(t, full(rules...), begun(), seen(), nothing())
		rules[which] = rule(truly(), cancel("u"))
		expectFires(t, full(rules...), begun(), seen(), fires(which, api.Action{Act: api.ActCancel, Slot: 2}), begun())
		for behind := which + 1; behind < 12; behind++ {
			rules[behind] = rule(saying(1+behind%4), set("i", num(7)))
		}
		expectFires(t, full(rules...), begun(), api.Snap{}, fires(which, api.Action{Act: api.ActCancel, Slot: 2}), begun())
		rules[which] = rule(faultyOf(tBool, over), cancel("u"))
		expectStays(t, full(rules...), begun(), api.Snap{}, faults(over))
	}
}

// Guards are reckoned with the mode's registers and the snapshot.
func TestGuardsSee(t *testing.T) {
	s := full(rule(expr(t, "i > 5 && has ask"), set("i", num(0))), rule(expr(t, "b && d == buy && ask > p"), halt()), rule(expr(t, "now > t"), goTo("z")))
	expectStays(t, s, begun(), api.Snap{}, nothing())
	expectFires(t, s, with("i", 6), api.Snap{Ask: 1}, fires(0), with("i", 0))
	expectStays(t, s, with("i", 6), api.Snap{}, nothing())
	expectStays(t, s, with("d", 1), api.Snap{}, faults(absent))
	expectStays(t, s, with("d", 1), api.Snap{Ask: 1}, halts(1))
	m := begun()
	m.State = 1
	expectFires(t, s, begun(), api.Snap{Now: 2}, fires(2), m)
	m = with("b", 0)
	expectStays(t, s, m, api.Snap{Now: 1}, nothing())
}

// Only the rules of the state at hand are gone through.
func TestOnlyTheStateAtHand(t *testing.T) {
	s := strategy(t, "strategy s { reg n int = 0; state a { when 1 / 0 > 1 do halt; } state b { when true do set n = n + 1, goto c; } state c { when false do halt; when true do set n = 9; } }")
	expectStays(t, s, mode(0, 4), api.Snap{}, faults(zero))
	expectFires(t, s, mode(1, 4), api.Snap{}, fires(0), mode(2, 5))
	expectFires(t, s, mode(2, 5), api.Snap{}, fires(1), mode(2, 9))
	expectNoTurn(t, s, mode(3, 5), api.Snap{}, noMode)
}

// deedOf is something done, with what it lets out and what it does to full's mode, as it begins, with what seen sees.
type deedOf struct {
	do      api.Do
	actions []api.Action
	behind  api.Mode
	halted  bool
}

// deedsOfEach are things done of each kind: submits of each Order, with and without a slot.
func deedsOfEach(t *testing.T) []deedOf {
	t.Helper()
	moved := begun()
	moved.State = 1
	all := []deedOf{
		{amend("o", lots(), price()), []api.Action{{Act: api.ActAmend, Qty: 2, Price: 3, Slot: 1}}, begun(), false},
		{amend("u", expr(t, "open - q"), expr(t, "p - ask")), []api.Action{{Act: api.ActAmend, Qty: 54, Price: -14, Slot: 2}}, begun(), false},
		{cancel("o"), []api.Action{{Act: api.ActCancel, Slot: 1}}, begun(), false},
		{cancel("u"), []api.Action{{Act: api.ActCancel, Slot: 2}}, begun(), false},
		{set("i", expr(t, "i + 41")), nil, with("i", 42), false},
		{set("q", expr(t, "volume")), nil, with("q", 1001), false},
		{set("p", expr(t, "-bid")), nil, with("p", -11), false},
		{set("t", expr(t, "now")), nil, with("t", 77), false},
		{set("b", expr(t, "!b")), nil, with("b", 0), false},
		{set("d", expr(t, "d == buy ? sell : buy")), nil, with("d", 1), false},
		{goTo("z"), nil, moved, false},
		{goTo("a"), nil, begun(), false},
		{halt(), nil, begun(), true},
	}
	for order := api.Limit; order <= api.Post; order++ {
		for slot, name := range []string{"", "o", "u"} {
			for side, text := range map[api.Side]string{api.Buy: "buy", api.Sell: "d"} {
				d := submit(name, expr(t, text), expr(t, "open + q"), expr(t, "last"))
				a := api.Action{Act: api.ActSubmit, Kind: order, Side: side, Qty: 56, Price: 12, Slot: slot}
				if d.Order = order; order == api.Market {
					d.Price, a.Price = api.Node{}, 0
				}
				all = append(all, deedOf{d, []api.Action{a}, begun(), false})
			}
		}
	}
	return all
}

// firing is what a rule that does these comes to.
func firing(l ...deedOf) api.Firing {
	f := fires(0)
	for _, x := range l {
		f.Actions = append(f.Actions, x.actions...)
		if x.halted {
			f.Status = api.Halted
		}
	}
	return f
}

// Each kind of thing done, alone.
func TestEachThingAlone(t *testing.T) {
	for _, x := range deedsOfEach(t) {
		expectFires(t, doing(x.do), begun(), seen(), firing(x), x.behind)
	}
}

// Each kind of thing done, behind each other one, and behind two others.
func TestEachThingBehindTheOthers(t *testing.T) {
	for _, x := range deedsOfEach(t) {
		if x.do.Kind >= api.DoGoto {
			continue
		}
		for _, y := range deedsOfEach(t) {
			behind := y.behind
			if x.do.Kind == api.DoSet {
				if y.do.Kind == api.DoSet || y.do.Kind == api.DoSubmit || y.do.Kind == api.DoAmend {
					// What the second one reads may have been set: that is another test's.
					continue
				}
				behind.Regs = x.behind.Regs
			}
			expectFires(t, doing(x.do, y.do), begun(), seen(), firing(x, y), behind)
			expectFires(t, doing(cancel("u"), x.do, y.do), begun(), seen(), firing(deedOf{actions: []api.Action{{Act: api.ActCancel, Slot: 2}}}, x, y), behind)
		}
	}
}

// As many things as a rule may do, in their order.
func TestManyThings(t *testing.T) {
	s := strategy(t, "strategy s { reg n int = 0; slot o; slot p; state a { when true do submit buy of 1q at 2p limit as p, cancel o, set n = n + 1, amend p to qty(n) at 4p, submit sell of qty(n + 1) market, cancel p, set n = n * 10, goto a; } }")
	all := []api.Action{
		{Act: api.ActSubmit, Kind: api.Limit, Side: api.Buy, Qty: 1, Price: 2, Slot: 2}, {Act: api.ActCancel, Slot: 1}, {Act: api.ActAmend, Qty: 6, Price: 4, Slot: 2},
		{Act: api.ActSubmit, Kind: api.Market, Side: api.Sell, Qty: 7}, {Act: api.ActCancel, Slot: 2},
	}
	expectFires(t, s, mode(0, 5), api.Snap{}, fires(0, all...), mode(0, 60))
	s = full(rule(truly(), times(8, cancel("o"))...))
	expectFires(t, s, begun(), api.Snap{}, fires(0, times(8, api.Action{Act: api.ActCancel, Slot: 1})...), begun())
	s = full(rule(truly(), times(8, set("i", binary(api.OperMul, reg("i"), num(2))))...))
	expectFires(t, s, with("i", 3), api.Snap{}, fires(0), with("i", 3*256))
}

// As many slots as may be: each by its number among the strategy's, whatever it is called; it may be called as a register or a state is.
func TestSlots(t *testing.T) {
	s := strategy(t, "strategy s { reg a int = 0; slot d; slot c; slot b; slot a; state a { when a == 0 do cancel a, cancel b, cancel c, cancel d; when a == 1 do submit buy of 1q market as a, amend b to 1q at 1p, submit buy of 1q at 1p post as d; } }")
	cancelled := []api.Action{{Act: api.ActCancel, Slot: 4}, {Act: api.ActCancel, Slot: 3}, {Act: api.ActCancel, Slot: 2}, {Act: api.ActCancel, Slot: 1}}
	expectFires(t, s, mode(0, 0), api.Snap{}, fires(0, cancelled...), mode(0, 0))
	expectFires(t, s, mode(0, 1), api.Snap{}, fires(1,
		api.Action{Act: api.ActSubmit, Kind: api.Market, Side: api.Buy, Qty: 1, Slot: 4}, api.Action{Act: api.ActAmend, Qty: 1, Price: 1, Slot: 3}, api.Action{Act: api.ActSubmit, Kind: api.Post, Side: api.Buy, Qty: 1, Price: 1, Slot: 1},
	), mode(0, 1))
}

// One name may stand for a register, a slot and a state: each is found where it is meant.
func TestOneNameOfEachKind(t *testing.T) {
	s := strategy(t, "strategy x { reg y int = 0; reg x int = 0; slot y; slot x; state y {} state z {} state x { when x == 3 do set x = x + 1, submit buy of qty(x) market as x, set y = x, goto y; } }")
	expectFires(t, s, mode(2, 7, 3), api.Snap{}, fires(0, api.Action{Act: api.ActSubmit, Kind: api.Market, Side: api.Buy, Qty: 4, Slot: 2}), mode(0, 4, 4))
}

// Every state can be gone to, from every other one and from itself.
func TestGotos(t *testing.T) {
	s := smallest()
	s.States = nil
	s.Regs = []api.Reg{{Name: "n", Type: tInt, Init: num(0)}}
	for k := range 12 {
		x := api.State{Name: "s" + string(rune('a'+k))}
		for to := range 12 {
			x.Rules = append(x.Rules, rule(binary(api.OperEq, reg("n"), num(int64(to))), goTo("s"+string(rune('a'+to)))))
		}
		s.States = append(s.States, x)
	}
	for from := range 12 {
		for to := range 12 {
			expectFires(t, s, mode(from, int64(to)), api.Snap{}, fires(to), mode(to, int64(to)))
		}
		expectStays(t, s, mode(from, 12), api.Snap{}, nothing())
	}
}

// A halt leaves the state; what was set ahead of it stays set. A goto and a halt can't stand in one rule, but in two.
func TestHalts(t *testing.T) {
	s := full(rule(has(1), set("i", num(5)), halt()), rule(has(2), cancel("o"), halt()), rule(has(3), goTo("z")))
	s.States[1].Rules = []api.Rule{rule(truly(), set("q", lots()), halt())}
	expectFires(t, s, begun(), api.Snap{Bid: 1, Ask: 1, Last: 1}, halts(0), with("i", 5))
	expectFires(t, s, begun(), api.Snap{Ask: 1, Last: 1}, halts(1, api.Action{Act: api.ActCancel, Slot: 1}), begun())
	moved, there := begun(), with("q", 2)
	moved.State, there.State = 1, 1
	expectFires(t, s, begun(), api.Snap{Last: 1}, fires(2), moved)
	expectFires(t, s, moved, api.Snap{Last: 1}, halts(0), there)
	for _, dos := range [][]api.Do{{goTo("z"), halt()}, {halt(), goTo("z")}, {set("i", num(1)), goTo("z"), halt()}} {
		expectNoTurn(t, doing(dos...), begun(), seen(), last)
	}
}

// What is set is read by what stands behind it in the same rule, and by nothing ahead of it; the guard has been reckoned by then.
func TestWhatIsSetIsReadBehindIt(t *testing.T) {
	s := strategy(t, "strategy s { reg n int = 0; reg m int = 0; slot o; state a { when n < 5 do submit buy of qty(n) market, set n = n + 10, submit buy of qty(n) market, set m = n, set n = m + n, amend o to qty(m) at price(n); when true do set m = 1; } }")
	bought := func(qty int64) api.Action {
		return api.Action{Act: api.ActSubmit, Kind: api.Market, Side: api.Buy, Qty: qty}
	}
	expectFires(t, s, mode(0, 3, 4), api.Snap{}, fires(0, bought(3), bought(13), api.Action{Act: api.ActAmend, Qty: 13, Price: 26, Slot: 1}), mode(0, 26, 13))
	expectFires(t, s, mode(0, 26, 13), api.Snap{}, fires(1), mode(0, 26, 1))
	// Two registers change places only by a third one; a bool and a side that are set are read as well.
	s = strategy(t, "strategy s { reg a int = 1; reg b int = 2; reg c int = 0; state a { when c == 0 do set a = b, set b = a, set c = 1; when c == 1 do set c = a, set a = b, set b = c; } }")
	expectFires(t, s, mode(0, 1, 2, 0), api.Snap{}, fires(0), mode(0, 2, 2, 1))
	expectFires(t, s, mode(0, 5, 6, 1), api.Snap{}, fires(1), mode(0, 6, 5, 5))
	s = doing(set("b", falsely()), set("d", expr(t, "b ? sell : buy")), market("", reg("d"), expr(t, "b ? 1q : 9q")))
	m := with("b", 0)
	m.Regs[5] = 1
	expectFires(t, s, begun(), seen(), fires(0, bought(9)), m)
	// What is set in a rule that is passed over is not.
	s = full(rule(falsely(), set("i", num(9))), rule(truly(), set("q", conv(tQty, reg("i")))))
	expectFires(t, s, with("i", 4), seen(), fires(1), mode(0, 4, 4, -1, 1, 1, 2))
}

// A fault in what is done: nothing of it is done, whatever stands ahead of it, granted or not.
func TestFaultsInWhatIsDone(t *testing.T) {
	for _, no := range everyFault {
		qty, value, side := faultyOf(tQty, no), faultyOf(tPrice, no), faultyOf(tSide, no)
		bad := []api.Do{
			set("i", faulty(no)), set("q", qty), set("p", value), set("b", faultyOf(tBool, no)), set("d", side), set("t", faultyOf(tTime, no)),
			submit("o", side, lots(), price()), submit("", buy(), qty, price()), submit("u", buy(), lots(), value), market("o", side, lots()), market("", buy(), qty), amend("o", qty, price()), amend("u", lots(), value),
		}
		for _, d := range bad {
			expectStays(t, doing(d), begun(), api.Snap{}, faults(no))
			expectStays(t, doing(d, halt()), begun(), api.Snap{}, faults(no))
			expectStays(t, doing(d, goTo("z")), begun(), api.Snap{}, faults(no))
			for _, ahead := range dosOfEach() {
				if ahead.Kind < api.DoGoto {
					expectStays(t, doing(ahead, d), begun(), api.Snap{}, faults(no))
					expectStays(t, doing(ahead, ahead, d, ahead), begun(), api.Snap{}, faults(no))
				}
			}
			// Behind a rule that is not so, or ahead of one that is; and where the rule is not the one.
			expectStays(t, full(rule(falsely(), halt()), rule(truly(), set("i", num(9)), d), rule(truly(), halt())), begun(), api.Snap{}, faults(no))
			expectStays(t, full(rule(falsely(), d), rule(truly(), halt()), rule(truly(), d)), begun(), api.Snap{}, halts(1))
			// The first of two faults.
			for _, other := range everyFault {
				expectStays(t, doing(d, set("i", faulty(other))), begun(), api.Snap{}, faults(no))
				expectStays(t, doing(market("", buy(), faultyOf(tQty, other)), d), begun(), api.Snap{}, faults(other))
			}
		}
	}
	// A set that a fault behind it undoes, though what it set was read in between.
	s := strategy(t, "strategy s { reg n int = 1; state a { when true do set n = n - 1, set n = 10 / n; } }")
	expectStays(t, s, mode(0, 1), api.Snap{}, faults(zero))
	expectFires(t, s, mode(0, 3), api.Snap{}, fires(0), mode(0, 5))
}

// Side, Qty and Price are reckoned in this order.
func TestSideQtyPrice(t *testing.T) {
	for _, first := range everyFault {
		for _, second := range everyFault {
			for order := api.Limit; order <= api.Post; order++ {
				for _, d := range []api.Do{
					submit("o", faultyOf(tSide, first), faultyOf(tQty, second), faultyOf(tPrice, second)), submit("", buy(), faultyOf(tQty, first), faultyOf(tPrice, second)), submit("", faultyOf(tSide, first), lots(), faultyOf(tPrice, second)),
					submit("u", buy(), lots(), faultyOf(tPrice, first)),
				} {
					if d.Order = order; order == api.Market {
						d = market(d.Name, faultyOf(tSide, first), faultyOf(tQty, second))
					}
					expectStays(t, doing(d), begun(), api.Snap{}, faults(first))
				}
			}
			expectStays(t, doing(amend("o", faultyOf(tQty, first), faultyOf(tPrice, second))), begun(), api.Snap{}, faults(first))
		}
	}
}

// What is not granted: a rule with an action is refused whole, wherever the action stands; one without an action does not hang on it; a fault comes ahead.
func TestNotGranted(t *testing.T) {
	for _, x := range deedsOfEach(t) {
		if len(x.actions) == 0 {
			expectTurn(t, doing(x.do), begun(), seen(), false, firing(x), x.behind)
			continue
		}
		for _, dos := range [][]api.Do{{x.do}, {x.do, halt()}, {x.do, goTo("z")}, {set("i", num(9)), x.do}, {x.do, set("i", num(9))}, {set("i", num(9)), x.do, set("q", lots()), goTo("z")}, {set("b", falsely()), x.do, x.do, halt()}} {
			expectTurn(t, doing(dos...), begun(), seen(), false, isRefused(0), begun())
			expectTurn(t, full(rule(falsely(), halt()), rule(truly(), dos...), rule(truly(), halt())), begun(), seen(), false, isRefused(1), begun())
			expectStays(t, doing(append(dos[:1:1], set("i", faulty(over)))...), begun(), seen(), faults(over))
		}
	}
	// That another rule has an action does not matter.
	s := full(rule(has(1), cancel("o")), rule(truly(), set("i", num(9)), goTo("z")))
	m := with("i", 9)
	m.State = 1
	expectTurn(t, s, begun(), api.Snap{}, false, fires(1), m)
	expectTurn(t, s, begun(), seen(), false, isRefused(0), begun())
}

// What an action asks for is told as it is, whether the market would take it or not.
func TestActionsOfAnyNumbers(t *testing.T) {
	for _, a := range edges() {
		for _, b := range edges() {
			m := with("q", a)
			m.Regs[2] = b
			for order := api.Limit; order <= api.Post; order++ {
				d := submit("", reg("d"), reg("q"), reg("p"))
				want := api.Action{Act: api.ActSubmit, Kind: order, Side: api.Sell, Qty: a, Price: b}
				if d.Order = order; order == api.Market {
					d.Price, want.Price = api.Node{}, 0
				}
				expectFires(t, doing(d), m, api.Snap{}, fires(0, want), m)
			}
			expectFires(t, doing(amend("u", reg("q"), reg("p"))), m, api.Snap{}, fires(0, api.Action{Act: api.ActAmend, Qty: a, Price: b, Slot: 2}), m)
		}
	}
}

// Places change nothing; nor does what registers begin with, when the mode says otherwise.
func TestPlacesAndBeginningsDoNotMatterToTurns(t *testing.T) {
	s := strategy(t, exampleText)
	bought := api.Action{Act: api.ActSubmit, Kind: api.Post, Side: api.Buy, Qty: 2, Price: 8, Slot: 1}
	for _, x := range []api.Strategy{s, numbered(s), places(s, func(int) int { return -1 })} {
		for _, init := range []int64{0, 2, 9, greatest} {
			x.Regs[0].Init = num(init)
			expectFires(t, x, mode(0, 2), api.Snap{Bid: 9}, fires(0, bought), mode(1, 3))
		}
	}
}
