package eval_test

import (
	"fmt"
	"testing"

	"tripwire/api"
)

// reading is a guard that is 0 and reads just these fields, the prices by has or as they are.
func reading(fields int, has bool) string {
	text := "num 0"
	for f := 1; f <= 6; f++ {
		if fields&(1<<f) == 0 {
			continue
		}
		what := "field"
		if has && f <= 3 {
			what = "has"
		}
		text += fmt.Sprintf(", %s %d, num 0, mul, add", what, f)
	}
	return text
}

// changing is a batch, the fields in which the snapshot differs from seen behind it, and that snapshot.
type changing struct {
	batch  []api.Feed
	fields int
	behind api.Snap
}

func changesOfEach() []changing {
	of := func(fields int, turn func(w *api.Snap), batch ...api.Feed) changing {
		w := seen()
		turn(&w)
		return changing{batch, fields, w}
	}
	none := func(*api.Snap) {}
	const isBid, isAsk, isLast, isVolume, isNow, isOpen = 2, 4, 8, 16, 32, 64
	return []changing{
		of(0, none), of(0, none, bid(11)), of(0, none, ask(13)), of(0, none, now(77)), of(0, none, open(0)),
		of(0, none, bid(11), ask(13), now(77), open(0)), of(0, none, bid(0), bid(11)), of(0, none, ask(5), bid(4), ask(13), bid(11)), of(0, none, open(3), open(-58), open(55)),
		of(isBid, func(w *api.Snap) { w.Bid = 10 }, bid(10)), of(isBid, func(w *api.Snap) { w.Bid = 0 }, bid(0)), of(isBid, func(w *api.Snap) { w.Bid = api.MaxPrice }, bid(11), bid(4), bid(api.MaxPrice)),
		of(isAsk, func(w *api.Snap) { w.Ask = 14 }, ask(14)), of(isAsk, func(w *api.Snap) { w.Ask = 0 }, bid(3), ask(0), bid(11)),
		of(isVolume, func(w *api.Snap) { w.Volume = 1005 }, trade(12, 4)), of(isVolume, func(w *api.Snap) { w.Volume = 1003 }, trade(13, 1), trade(12, 1)),
		of(isLast|isVolume, func(w *api.Snap) { w.Last, w.Volume = 1, 1002 }, trade(1, 1)),
		of(isNow, func(w *api.Snap) { w.Now = 78 }, now(78)), of(isNow, func(w *api.Snap) { w.Now = api.MaxTime }, now(77), now(99), now(api.MaxTime)),
		of(isOpen, func(w *api.Snap) { w.Open = 0 }, open(-55)), of(isOpen, func(w *api.Snap) { w.Open = api.MaxOpen }, open(api.MaxOpen-55)),
		of(isBid|isAsk, func(w *api.Snap) { w.Bid, w.Ask = 1, 2 }, ask(2), bid(1)), of(isNow|isOpen, func(w *api.Snap) { w.Now, w.Open = 80, 56 }, now(80), open(1)),
		of(isBid|isLast|isVolume|isOpen, func(w *api.Snap) { w.Bid, w.Last, w.Volume, w.Open = 9, 10, 1006, 50 }, trade(10, 5), open(-5), bid(9)),
		of(126, func(w *api.Snap) { *w = api.Snap{Bid: 1, Ask: 2, Last: 3, Volume: 1007, Now: 100, Open: 56} }, bid(1), ask(2), trade(7, 2), trade(3, 4), now(100), open(1)),
	}
}

// Of a guard that reads any of the fields that a batch has changed nothing is known behind it; of any other one all that was; by Fold, and by Turn, which runs then just what is not known. In whatever state it stands.
func TestWhatAFoldForgets(t *testing.T) {
	for fields := 0; fields < 128; fields += 2 {
		for _, has := range []bool{false, true} {
			text := reading(fields, has)
			steps := len(code(text))
			x := laid([]rule{when(text, halt())}, []rule{when("num 1", halt())})
			for _, c := range changesOfEach() {
				r := started(t, x, seen())
				expectTurn(t, r, true, nothing(steps))
				again, known := 0, "0 | -"
				if c.fields&fields != 0 {
					again, known = steps, "- | -"
				}
				expectFold(t, r, api.OK, c.batch...)
				expectStanding(t, r, standing{begun(), api.Running, api.OK, c.behind, known, steps})
				if absentIn(text, c.behind) {
					continue
				}
				expectTurn(t, r, true, nothing(again))
				r = started(t, x, seen())
				expectTurn(t, r, true, nothing(steps))
				expectTurn(t, r, true, nothing(again), c.batch...)
				expectStanding(t, r, standing{begun(), api.Running, api.OK, c.behind, "0 | -", steps + again})
			}
		}
	}
}

// absentIn tells whether instructions name a price that is not there.
func absentIn(text string, w api.Snap) bool {
	for _, in := range code(text) {
		if in.Kind == api.InstrField && (in.A == 1 && w.Bid == 0 || in.A == 2 && w.Ask == 0) {
			return true
		}
	}
	return false
}

// What a fold takes away, it takes from guards of all states, and only from those that read what has changed.
func TestFoldsReachOtherStates(t *testing.T) {
	state := func(next int) []rule {
		return []rule{when("has 1, num 0, mul", halt()), when("has 2, num 0, mul", halt()), when("field 4, num 0, mul", halt()), when("reg 0, num 0, mul", halt()), when("num 0", halt()), when("num 1", goTo(next))}
	}
	x := laid(state(1), state(2), state(0))
	all := func(t *testing.T) *runner {
		t.Helper()
		r := started(t, x, seen())
		for k := range 3 {
			expectTurn(t, r, true, fires(3*4+2, 5))
			expectMode(t, r, mode((k+1)%3, 5, -6, 7))
		}
		expectKnows(t, r, "0 0 0 0 0 1 | 0 0 0 0 0 1 | 0 0 0 0 0 1")
		return r
	}
	for _, c := range []struct {
		batch []api.Feed
		known string
		steps int
	}{
		{[]api.Feed{bid(4)}, "- 0 0 0 0 1", 3},
		{[]api.Feed{ask(4)}, "0 - 0 0 0 1", 3},
		{[]api.Feed{trade(12, 4)}, "0 0 - 0 0 1", 3},
		{[]api.Feed{ask(0), bid(0)}, "- - 0 0 0 1", 6},
		{[]api.Feed{ask(3), bid(4), trade(1, 1), now(99), open(1)}, "- - - 0 0 1", 9},
		{[]api.Feed{now(99), open(1)}, "0 0 0 0 0 1", 0},
		{nil, "0 0 0 0 0 1", 0},
	} {
		r := all(t)
		expectFold(t, r, api.OK, c.batch...)
		expectKnows(t, r, c.known+" | "+c.known+" | "+c.known)
		r = all(t)
		expectTurn(t, r, true, fires(c.steps, 5), c.batch...)
		expectKnows(t, r, "0 0 0 0 0 1 | "+c.known+" | "+c.known)
		expectTurn(t, r, true, fires(c.steps, 5))
		expectKnows(t, r, "0 0 0 0 0 1 | 0 0 0 0 0 1 | "+c.known)
	}
}

// badBatches can't be folded to seen, from their first feed on, or at a later one.
func badBatches() [][]api.Feed {
	return [][]api.Feed{
		{bid(-1)}, {bid(api.MaxPrice + 1)}, {ask(-1)}, {ask(api.MaxPrice + 1)}, {trade(0, 1)}, {trade(1, 0)}, {trade(api.MaxPrice+1, 1)}, {trade(1, api.MaxQty+1)}, {now(76)}, {now(-1)}, {now(api.MaxTime + 1)},
		{open(-56)}, {open(api.MaxOpen)}, {open(greatest)}, {open(least)}, {{}}, {{Kind: 6, A: 1}}, {{Kind: 255}},
		{bid(4), ask(-1)}, {bid(4), ask(5), trade(4, 4), now(99), open(1), now(98)}, {open(-50), open(-6)}, {bid(4), {}}, {{}, bid(4)}, {now(99), bid(11), now(77)}, {trade(3, 3), open(5), bid(-4), bid(4)},
	}
}

// A batch that is refused, at its first feed or at a later one, leaves all but the stand: the snapshot, the mode, what is known, the steps; and no guard is run.
func TestRefusedBatches(t *testing.T) {
	x := laid([]rule{when("has 1, num 0, mul", halt()), when("field 5, num 0, mul", cancel(1)), when("field 4, num 1001, gt", halt())}, []rule{when("num 1", halt())})
	for _, batch := range badBatches() {
		r := started(t, x, seen())
		// Ahead of the first turn.
		expectTurn(t, r, true, faults(0, snapRange), batch...)
		expectStanding(t, r, standing{begun(), api.Faulted, snapRange, seen(), "- - - | -", 0})
		for _, folded := range []bool{true, false} {
			r = started(t, x, seen())
			expectTurn(t, r, true, nothing(9))
			if folded {
				expectFold(t, r, snapRange, batch...)
			} else {
				expectTurn(t, r, true, faults(0, snapRange), batch...)
			}
			expectStanding(t, r, standing{begun(), api.Faulted, snapRange, seen(), "0 0 0 | -", 9})
			expectFold(t, r, ended, batch...)
			expectTurn(t, r, true, faults(0, snapRange), batch...)
			expectTurn(t, r, true, faults(0, snapRange), bid(4))
			r.Start()
			expectTurn(t, r, true, nothing(9))
			expectStanding(t, r, standing{begun(), api.Running, api.OK, seen(), "0 0 0 | -", 18})
		}
	}
}

// Many feeds in one batch are folded one by one, each to what those ahead of it leave.
func TestManyFeeds(t *testing.T) {
	r := started(t, asking("field 4, num 1000, lt, not"), api.Snap{})
	var batch []api.Feed
	for n := range int64(1000) {
		batch = append(batch, trade(n+1, 1), open(2), open(-1), now(n/2), bid(n))
	}
	expectFold(t, r, api.OK, batch[:5*999]...)
	expectStanding(t, r, standing{begun(), api.Running, api.OK, api.Snap{Bid: 998, Last: 999, Volume: 999, Now: 499, Open: 999}, "-", 0})
	expectTurn(t, r, true, halts(4, 0), batch[5*999:]...)
	expectStanding(t, r, standing{begun(), api.Halted, api.OK, api.Snap{Bid: 999, Last: 1000, Volume: 1000, Now: 499, Open: 1000}, "1", 4})
}

// Folds alone run nothing, however often and whatever they bring.
func TestFoldsRunNothing(t *testing.T) {
	r := started(t, standsTable(), api.Snap{})
	for n := int64(1); n < 20; n++ {
		expectFold(t, r, api.OK, bid(n), ask(n), now(n), open(n))
		expectFold(t, r, api.OK)
	}
	expectStanding(t, r, standing{begun(), api.Running, api.OK, api.Snap{Bid: 19, Ask: 19, Now: 19, Open: 190}, "- - - - | -", 0})
	expectTurn(t, r, true, halts(2, 0))
}
