package eval_test

import (
	"slices"
	"testing"

	"tripwire/api"
	"tripwire/lower"
)

const exampleText = "strategy s { reg n int = -2; slot o; state a { when has bid && n < 3 do submit buy of 2q at bid limit as o, set n = n + 1, goto b; } state b {} }"

// lowered is the table of a text.
func lowered(t *testing.T, text string) api.Table {
	t.Helper()
	x, _, err := lower.Source(text)
	if err != nil {
		t.Fatal(err)
	}
	return x
}

// bought is a Limit order of 2 in the first slot.
func bought(price int64) api.Action {
	return api.Action{Act: api.ActSubmit, Kind: api.Limit, Side: api.Buy, Qty: 2, Price: price, Slot: 1}
}

// The chapter's examples, one behind the other.
func TestExamples(t *testing.T) {
	for _, x := range []api.Table{lowered(t, exampleText), exampleU()} {
		r := made(t, x, api.Snap{})
		expectStanding(t, r, standing{mode: mode(0, -2), known: "- | "})
		r.Start()
		expectStanding(t, r, standing{mode: mode(0, -2), status: api.Running, known: "- | "})
		expectTurn(t, r, true, nothing(2))
		expectKnows(t, r, "0 | ")
		for _, f := range []api.Feed{ask(7), now(3)} {
			expectTurn(t, r, true, nothing(0), f)
			expectKnows(t, r, "0 | ")
		}
		expectTurn(t, r, false, isRefused(11, 0), bid(9))
		if !slices.Equal(r.asked, []int{1}) {
			t.Errorf("grant was asked of %v", r.asked)
		}
		expectStanding(t, r, standing{mode(0, -2), api.Running, api.OK, api.Snap{Bid: 9, Ask: 7, Now: 3}, "1 | ", 13})
		expectTurn(t, r, true, fires(6, 0, bought(9)))
		expectStanding(t, r, standing{mode(1, -1), api.Running, api.OK, api.Snap{Bid: 9, Ask: 7, Now: 3}, "- | ", 19})
		expectTurn(t, r, true, nothing(0), bid(0))
		expectFold(t, r, api.OK, bid(9))
		expectKnows(t, r, "- | ")
		expectTurn(t, r, true, faults(0, snapRange), now(1))
		faulted := standing{mode(1, -1), api.Faulted, snapRange, api.Snap{Bid: 9, Ask: 7, Now: 3}, "- | ", 19}
		expectStanding(t, r, faulted)
		expectTurn(t, r, true, faults(0, snapRange))
		expectFold(t, r, ended)
		expectStanding(t, r, faulted)
		r.Start()
		expectTurn(t, r, true, fires(11, 0, bought(8)), bid(8))
		expectStanding(t, r, standing{mode(1, -1), api.Running, api.OK, api.Snap{Bid: 8, Ask: 7, Now: 3}, "- | ", 30})
	}
}

// The third of DOC.md: it buys of the first order that is offered, once.
func TestBuysOnce(t *testing.T) {
	r := started(t, lowered(t, "strategy s { reg n int = 0; slot o; state a { when has ask && n < 1 do submit buy of 2q at ask limit as o, set n = n + 1; } }"), api.Snap{})
	expectTurn(t, r, true, nothing(2))
	expectTurn(t, r, true, nothing(0), trade(7, 3), bid(6))
	expectTurn(t, r, true, fires(11, 0, bought(10)), ask(10))
	expectTurn(t, r, true, nothing(5))
	expectTurn(t, r, true, nothing(0), open(2))
	expectTurn(t, r, true, nothing(5), ask(11))
	expectTurn(t, r, true, nothing(2), ask(0))
}

// The fourth and the fifth: what is not there, or divides by nought, faults where the text comes to it.
func TestFaultsOfTheDocument(t *testing.T) {
	of := func(guard string, w api.Snap) *runner {
		t.Helper()
		return started(t, lowered(t, "strategy s { reg n int = 0; state a { when "+guard+" do halt; } }"), w)
	}
	expectTurn(t, of("bid > 3p", api.Snap{}), true, faults(1, absent))
	expectTurn(t, of("bid > 3p", api.Snap{}), true, nothing(3), bid(3))
	expectTurn(t, of("has bid && bid > 3p", api.Snap{}), true, nothing(2))
	expectTurn(t, of("has bid && bid > 3p", api.Snap{}), true, halts(5, 0), bid(4))
	expectTurn(t, of("10 / n > 3 || has bid", api.Snap{}), true, faults(3, zero))
	expectTurn(t, of("10 / n > 3 || has bid", api.Snap{Bid: 9}), true, faults(3, zero))
	expectTurn(t, of("has bid || 10 / n > 3", api.Snap{Bid: 9}), true, halts(2, 0))
	r := of("has bid || 10 / n > 3", api.Snap{})
	expectTurn(t, r, true, faults(5, zero))
	expectKnows(t, r, "!11")
}

// The sixth and the seventh: it fires again and again, whole or not at all; its guard is run once.
func TestFiresAgain(t *testing.T) {
	r := started(t, lowered(t, "strategy s { state a { when has ask do submit buy of 1q at ask ioc; } }"), api.Snap{Ask: 4})
	sold := func(price int64) api.Action {
		return api.Action{Act: api.ActSubmit, Kind: api.Now, Side: api.Buy, Qty: 1, Price: price}
	}
	expectTurn(t, r, true, fires(4, 0, sold(4)))
	for n := int64(1); n < 6; n++ {
		expectTurn(t, r, false, isRefused(3, 0), trade(4, n))
		expectTurn(t, r, true, fires(3, 0, sold(4)), trade(4, n))
	}
	expectTurn(t, r, true, fires(4, 0, sold(5)), ask(5))
	r = started(t, lowered(t, "strategy s { reg n int = 0; state a { when n < 1 do submit buy of 1q at 3p ioc, set n = 1, submit sell of 1q at 4p fok, goto b; } state b {} }"), api.Snap{})
	expectTurn(t, r, false, isRefused(3+7, 0))
	if !slices.Equal(r.asked, []int{2}) {
		t.Errorf("grant was asked of %v", r.asked)
	}
	expectStanding(t, r, standing{mode: mode(0, 0), status: api.Running, known: "1 | ", steps: 10})
	expectTurn(t, r, true, fires(7, 0, sold(3), api.Action{Act: api.ActSubmit, Kind: api.All, Side: api.Sell, Qty: 1, Price: 4}))
	expectStanding(t, r, standing{mode: mode(1, 1), status: api.Running, known: "- | ", steps: 17})
}
