package eval_test

import (
	"slices"
	"testing"

	"tripwire/api"
	"tripwire/snap"
	"tripwire/table"
)

// Drawn tables, drawn calls in any order: each answer is the model's, and so is all that the evaluator tells of itself behind each call.
func TestDrawnCalls(t *testing.T) {
	reached := map[string]int{}
	steps := map[bool]int{}
	for k, x := range drawnTables(100, 5000) {
		d := drawer{below: draw(uint64(500000 + k))}
		w := d.seenSome()
		if d.below(40) == 0 {
			w.Now = -1
		}
		p, no := newPair(t, x, w)
		reached["New: "+outcome(api.Firing{Rule: -1}, no)]++
		if p == nil {
			continue
		}
		p.expectAlike(t)
		for range 40 {
			status, _ := p.Status()
			switch n := d.below(16); {
			case n == 0 || status != api.Running && n > 10:
				p.start()
				p.expectAlike(t)
			case n == 1:
				p.stop()
				p.expectAlike(t)
			case n < 5:
				no := p.expectFold(t, d.batch(p.Snap(), 60))
				reached["Fold: "+outcome(api.Firing{Rule: -1}, no)]++
			default:
				f := p.expectTurn(t, d.below(3) > 0, d.batch(p.Snap(), 60))
				kind := outcome(f, api.OK)
				if status != api.Running {
					kind = "ended"
				}
				reached[kind]++
				steps[f.Steps > 0]++
			}
		}
	}
	expectReached(t, reached, 50, "nothing", "fires", "fires actions", "halts", "halts actions", "refused", "ended", "faults 10", "faults 11", "faults 170", "faults 201", "faults 100",
		"Fold: nothing", "Fold: error 210", "Fold: error 100", "New: error 100", "New: error 190", "New: error 191")
	expectReached(t, steps, 5000, true, false)
}

// The same of the tables of drawn texts, which run longer.
func TestDrawnTexts(t *testing.T) {
	reached := map[string]int{}
	for k, y := range texts(t, 1000000, 1500) {
		d := drawer{below: draw(uint64(1500000 + k))}
		p, _ := newPair(t, y.x, d.seenSome())
		p.start()
		for range 30 {
			if d.below(4) == 0 {
				p.expectFold(t, d.batch(p.Snap(), 200))
			}
			f := p.expectTurn(t, d.below(4) > 0, d.batch(p.Snap(), 200))
			reached[outcome(f, api.OK)]++
			if f.Status != api.Running {
				p.start()
			}
		}
	}
	expectReached(t, reached, 200, "nothing", "fires", "fires actions", "halts", "halts actions", "refused", "faults 10", "faults 11", "faults 170", "faults 100")
}

// All short runs of few calls, of one table: each is the model's.
func TestAllShortRuns(t *testing.T) {
	x := laid(
		[]rule{when("has 1, reg 0, num 6, lt, mul", set(0, "reg 0, num 1, add"), cancel(1)), when("has 2", goTo(1)), when("num 10, reg 0, num 7, sub, div, num 0, mul", halt())},
		[]rule{when("has 1", set(0, "num 7"), goTo(0)), when("field 5, num 2, gt", halt())},
	)
	calls := []func(p *pair){
		(*pair).start,
		(*pair).stop,
		func(p *pair) { p.expectFold(t, []api.Feed{bid(1), ask(0)}) },
		func(p *pair) { p.expectFold(t, []api.Feed{now(9), bid(-1)}) },
		func(p *pair) { p.expectTurn(t, true, nil) },
		func(p *pair) { p.expectTurn(t, false, []api.Feed{bid(1)}) },
		func(p *pair) { p.expectTurn(t, true, []api.Feed{bid(0), ask(1)}) },
		func(p *pair) { p.expectTurn(t, true, []api.Feed{now(3), bid(1)}) },
	}
	for run := range 8 * 8 * 8 * 8 * 8 {
		p, _ := newPair(t, x, api.Snap{})
		p.start()
		for rest := run; rest > 0; rest /= 8 {
			calls[rest%8](p)
			p.expectAlike(t)
		}
	}
}

// The same calls, the same answers: asked of two evaluators in turn, whatever other ones do meanwhile.
func TestEvaluatorsKnowNothingOfOneAnother(t *testing.T) {
	type call struct {
		granted bool
		batch   []api.Feed
	}
	for k, x := range drawnTables(2000000, 300) {
		if table.Check(x) != api.OK {
			continue
		}
		d := drawer{below: draw(uint64(2500000 + k))}
		w := d.seenSome()
		all := []*runner{started(t, x, w), started(t, x, w), started(t, x, w)}
		other := started(t, x, w)
		var calls []call
		seen := w
		for range 12 {
			c := call{d.below(3) > 0, d.batch(seen, 0)}
			if next, _, no := snap.Fold(seen, c.batch...); no == api.OK {
				seen = next
			}
			calls = append(calls, c)
		}
		told := make([][]api.Firing, len(all))
		for n, c := range calls {
			for i, r := range all[:2] {
				told[i] = append(told[i], r.turn(c.granted, c.batch...))
			}
			other.turn(n%2 == 0, bid(int64(n)))
			if n%5 == 4 {
				other.Start()
			}
		}
		for _, c := range calls {
			told[2] = append(told[2], all[2].turn(c.granted, c.batch...))
		}
		for i := 1; i < 3; i++ {
			if !slices.EqualFunc(told[0], told[i], sameFiring) || !all[0].standing().same(all[i].standing()) {
				t.Errorf("%s: %+v, %+v; another one %+v, %+v", short(x), told[0], all[0].standing(), told[i], all[i].standing())
			}
		}
	}
}

// Evaluators run at the same time, each by one caller, say what they say alone.
func TestAtTheSameTime(t *testing.T) {
	x := exampleU()
	done := make(chan bool)
	for range 4 {
		go func() {
			for range 200 {
				r := started(t, x, api.Snap{})
				expectTurn(t, r, true, nothing(2))
				expectTurn(t, r, false, isRefused(11, 0), bid(9))
				expectTurn(t, r, true, fires(6, 0, bought(9)))
				expectStanding(t, r, standing{mode(1, -1), api.Running, api.OK, api.Snap{Bid: 9}, "- | ", 19})
			}
			done <- true
		}()
	}
	for range 4 {
		<-done
	}
}
