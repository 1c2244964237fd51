package eval_test

import (
	"testing"

	"tripwire/api"
)

// standsTable halts where something is bid, faults in its rows where something is asked, in a guard at the time 7, and goes on to its second state where more than 3 are open.
func standsTable() api.Table {
	return laid(
		[]rule{
			when("has 1", set(0, "num 9"), halt()),
			when("has 2", set(0, "num 8"), set(1, "num 1, num 0, div")),
			when("num 0, field 5, num 7, sub, mod", cancel(2)),
			when("field 6, num 3, gt", cancel(1), set(2, "reg 2, num 1, add"), goTo(1)),
		},
		[]rule{when("reg 2, num 8, gt", halt())},
	)
}

// stand is how an evaluator of that table has come to where it stands.
type stand struct {
	come func(t *testing.T, r *runner)
	is   standing
}

// standsOfEach are all stands in which it does not run, from a snapshot of noughts on.
func standsOfEach() map[string]stand {
	turn := func(f api.Firing, batch ...api.Feed) func(t *testing.T, r *runner) {
		return func(t *testing.T, r *runner) {
			t.Helper()
			r.Start()
			expectTurn(t, r, true, f, batch...)
		}
	}
	fold := func(batch ...api.Feed) func(t *testing.T, r *runner) {
		return func(t *testing.T, r *runner) {
			t.Helper()
			r.Start()
			expectTurn(t, r, true, nothing(10))
			expectFold(t, r, snapRange, batch...)
		}
	}
	refused := standing{begun(), api.Faulted, snapRange, api.Snap{}, "0 0 0 0 | -", 10}
	away := api.Action{Act: api.ActCancel, Slot: 1}
	return map[string]stand{
		"ahead of Start":         {func(*testing.T, *runner) {}, standing{begun(), api.Stopped, api.OK, api.Snap{}, "- - - - | -", 0}},
		"stopped ahead of Start": {func(_ *testing.T, r *runner) { r.Stop() }, standing{begun(), api.Stopped, api.OK, api.Snap{}, "- - - - | -", 0}},
		"stopped": {func(t *testing.T, r *runner) {
			turn(nothing(10))(t, r)
			r.Stop()
		}, standing{begun(), api.Stopped, api.OK, api.Snap{}, "0 0 0 0 | -", 10}},
		"stopped in another state": {func(t *testing.T, r *runner) {
			turn(fires(10+3, 3, away), open(5))(t, r)
			expectTurn(t, r, true, nothing(3))
			r.Stop()
		}, standing{mode(1, 5, -6, 8), api.Stopped, api.OK, api.Snap{Open: 5}, "0 0 0 1 | 0", 16}},
		"halted":             {turn(halts(2, 0), bid(5)), standing{mode(0, 9, -6, 7), api.Halted, api.OK, api.Snap{Bid: 5}, "1 - - - | -", 2}},
		"faulted by rows":    {turn(faults(6, zero), ask(5)), standing{begun(), api.Faulted, zero, api.Snap{Ask: 5}, "0 1 - - | -", 6}},
		"faulted by a guard": {turn(faults(7, zero), now(7)), standing{begun(), api.Faulted, zero, api.Snap{Now: 7}, "0 0 !11 - | -", 7}},
		"refused at first":   {fold(ask(-1), bid(5)), refused},
		"refused later":      {fold(bid(5), trade(5, 1), open(-1)), refused},
		"refused in a turn": {func(t *testing.T, r *runner) {
			turn(nothing(10))(t, r)
			expectTurn(t, r, true, faults(0, snapRange), bid(5), api.Feed{})
		}, refused},
		"refused in the first turn": {turn(faults(0, snapRange), api.Feed{Kind: 6}), standing{begun(), api.Faulted, snapRange, api.Snap{}, "- - - - | -", 0}},
	}
}

// batches are some that can be, and some that can't.
func batches() [][]api.Feed {
	return [][]api.Feed{nil, {}, {bid(3)}, {bid(3), ask(4), trade(3, 2), now(9), open(7)}, {bid(-1)}, {bid(3), {}}, {now(-1), bid(3)}, {{Kind: 99, A: 1, B: 1}}}
}

// In none of these stands is anything done: neither by Turn, which tells the stand, nor by Fold, nor by Stop, whatever the batch; no grant is asked.
func TestWhatDoesNotRunDoesNothing(t *testing.T) {
	for name, s := range standsOfEach() {
		t.Run(name, func(t *testing.T) {
			r := made(t, standsTable(), api.Snap{})
			s.come(t, r)
			expectStanding(t, r, s.is)
			for _, granted := range []bool{true, false} {
				for _, batch := range batches() {
					expectTurn(t, r, granted, api.Firing{Rule: -1, Status: s.is.status, Code: s.is.code}, batch...)
					expectStanding(t, r, s.is)
					expectFold(t, r, ended, batch...)
					expectStanding(t, r, s.is)
				}
			}
			if f := r.Turn(nil, nil); !sameFiring(f, api.Firing{Rule: -1, Status: s.is.status, Code: s.is.code}) {
				t.Error(f)
			}
			r.Stop()
			r.Stop()
			expectStanding(t, r, s.is)
		})
	}
}

// From each of these stands, and while it runs, Start begins anew: but for the snapshot and the steps it is as one that was just made.
func TestStartFromEachStand(t *testing.T) {
	for name, s := range standsOfEach() {
		t.Run(name, func(t *testing.T) {
			for starts := 1; starts <= 3; starts++ {
				r := made(t, standsTable(), api.Snap{})
				s.come(t, r)
				for range starts {
					r.Start()
				}
				anew := started(t, standsTable(), s.is.snap)
				want := anew.standing()
				want.steps = s.is.steps
				expectStanding(t, r, want)
				expectStanding(t, r, standing{begun(), api.Running, api.OK, s.is.snap, "- - - - | -", s.is.steps})
				for _, batch := range [][]api.Feed{{bid(0), ask(0), now(8)}, {open(4)}, {now(9)}, {bid(1)}, nil} {
					f := anew.turn(true, batch...)
					expectTurn(t, r, true, f, batch...)
					want := anew.standing()
					want.steps += s.is.steps
					expectStanding(t, r, want)
				}
			}
		})
	}
}

// The same where it runs: in another state, with registers that were set, with much that is known.
func TestStartWhileItRuns(t *testing.T) {
	r := started(t, standsTable(), api.Snap{})
	r.Start()
	expectTurn(t, r, true, fires(13, 3, api.Action{Act: api.ActCancel, Slot: 1}), open(4))
	expectTurn(t, r, true, nothing(3))
	expectStanding(t, r, standing{mode(1, 5, -6, 8), api.Running, api.OK, api.Snap{Open: 4}, "0 0 0 1 | 0", 16})
	r.Start()
	expectStanding(t, r, standing{begun(), api.Running, api.OK, api.Snap{Open: 4}, "- - - - | -", 16})
	expectTurn(t, r, false, isRefused(13, 3))
	r.Start()
	expectTurn(t, r, true, nothing(10), open(-1))
	expectStanding(t, r, standing{begun(), api.Running, api.OK, api.Snap{Open: 3}, "0 0 0 0 | -", 39})
	r.Start()
	expectTurn(t, r, true, nothing(10))
	expectTurn(t, r, true, nothing(0))
}

// Stop of one that runs leaves all but that; what was known then is known no more behind Start.
func TestStop(t *testing.T) {
	r := started(t, standsTable(), api.Snap{})
	r.Stop()
	expectStanding(t, r, standing{begun(), api.Stopped, api.OK, api.Snap{}, "- - - - | -", 0})
	r.Start()
	expectTurn(t, r, true, nothing(10))
	r.Stop()
	expectTurn(t, r, true, api.Firing{Rule: -1, Status: api.Stopped})
	r.Start()
	expectKnows(t, r, "- - - - | -")
	expectTurn(t, r, true, nothing(10))
	expectStatus(t, r, api.Running, api.OK)
}

// Behind a fault and a Start the code is OK again, and stays so behind Stop and a halt.
func TestCodesAreOfFaultsAlone(t *testing.T) {
	r := started(t, standsTable(), api.Snap{})
	expectTurn(t, r, true, faults(7, zero), now(7))
	expectStatus(t, r, api.Faulted, zero)
	r.Start()
	expectStatus(t, r, api.Running, api.OK)
	r.Stop()
	expectStatus(t, r, api.Stopped, api.OK)
	r.Start()
	expectFold(t, r, snapRange, now(6))
	expectStatus(t, r, api.Faulted, snapRange)
	r.Start()
	expectTurn(t, r, true, halts(2, 0), bid(1), now(8))
	expectStatus(t, r, api.Halted, api.OK)
	expectTurn(t, r, true, api.Firing{Rule: -1, Status: api.Halted})
}
