package machine_test

import (
	"testing"

	"tripwire/api"
	"tripwire/lower"
	"tripwire/machine"
)

const exampleText = "strategy s { reg n int = -2; slot o; state a { when has bid && n < 3 do submit buy of 2q at bid limit as o, set n = n + 1, goto b; } state b {} }"

func TestExamples(t *testing.T) {
	made, _, err := lower.Source(exampleText)
	if err != nil {
		t.Fatal(err)
	}
	for _, u := range []api.Table{made, exampleU()} {
		expectStart(t, u, -2)
		bought := api.Action{Act: api.ActSubmit, Kind: api.Limit, Side: api.Buy, Qty: 2, Price: 9, Slot: 1}
		nine := api.Snap{Bid: 9}
		expectTurn(t, u, mode(0, -2), nine, true, fires(11, 0, bought), mode(1, -1))
		expectStays(t, u, mode(0, -2), api.Snap{}, nothing(2))
		expectStays(t, u, mode(0, 3), nine, nothing(5))
		expectTurn(t, u, mode(0, -2), nine, false, isRefused(11, 0), mode(0, -2))
		expectValue(t, u, span(8, 11), mode(0, greatest), api.Snap{Bid: 1}, result{0, 3, over})
		// In the state behind it there are no guards.
		expectStays(t, u, mode(1, -1), nine, nothing(0))
	}
	expectValue(t, exampleT(), span(0, 4), api.Mode{}, api.Snap{}, result{0, 2, api.OK})
	expectValue(t, exampleT(), span(0, 4), api.Mode{}, api.Snap{Bid: 5}, result{0, 4, api.OK})
	expectNoValue(t, exampleT(), span(1, 3), api.Mode{}, api.Snap{}, noSpan)
	expectNoTurn(t, exampleT(), mode(1), api.Snap{}, noMode)
	expectStart(t, exampleT())
}

// The third of DOC.md: it buys of the first order that is offered, once.
func TestBuysOnce(t *testing.T) {
	x, _, err := lower.Source("strategy s { reg n int = 0; slot o; state a { when has ask && n < 1 do submit buy of 2q at ask limit as o, set n = n + 1; } }")
	if err != nil {
		t.Fatal(err)
	}
	m, no := machine.Start(x)
	if no != api.OK {
		t.Fatal(no)
	}
	expectStays(t, x, m, api.Snap{}, nothing(2))
	offered := api.Snap{Ask: 10}
	expectFires(t, x, m, offered, fires(5+3+3, 0, api.Action{Act: api.ActSubmit, Kind: api.Limit, Side: api.Buy, Qty: 2, Price: 10, Slot: 1}), mode(0, 1))
	expectStays(t, x, mode(0, 1), offered, nothing(5))
}

// The fourth and the fifth: what is not there, or divides by nought, faults where the text comes to it.
func TestFaultsOfTheDocument(t *testing.T) {
	of := func(guard string) api.Table {
		t.Helper()
		x, _, err := lower.Source("strategy s { reg n int = 0; state a { when " + guard + " do halt; } }")
		if err != nil {
			t.Fatal(err)
		}
		return x
	}
	expectStays(t, of("bid > 3p"), mode(0, 0), api.Snap{}, faults(1, absent))
	expectStays(t, of("bid > 3p"), mode(0, 0), api.Snap{Bid: 3}, nothing(3))
	expectStays(t, of("bid > 3p"), mode(0, 0), api.Snap{Bid: 4}, halts(3, 0))
	expectStays(t, of("has bid && bid > 3p"), mode(0, 0), api.Snap{}, nothing(2))
	expectStays(t, of("has bid && bid > 3p"), mode(0, 0), api.Snap{Bid: 4}, halts(5, 0))
	expectStays(t, of("10 / n > 3 || has bid"), mode(0, 0), api.Snap{}, faults(3, zero))
	expectStays(t, of("10 / n > 3 || has bid"), mode(0, 0), api.Snap{Bid: 9}, faults(3, zero))
	expectStays(t, of("10 / n > 3 || has bid"), mode(0, 2), api.Snap{}, halts(6, 0))
	expectStays(t, of("10 / n > 3 || has bid"), mode(0, 5), api.Snap{Bid: 9}, halts(7, 0))
	expectStays(t, of("has bid || 10 / n > 3"), mode(0, 0), api.Snap{}, faults(5, zero))
	expectStays(t, of("has bid || 10 / n > 3"), mode(0, 0), api.Snap{Bid: 9}, halts(2, 0))
}

// The sixth, the seventh and the eighth: it fires again and again, whole or not at all, whether the market will take it or not.
func TestFiresAgain(t *testing.T) {
	x := laid([]rule{when("has 2", submit(api.Now, 0, "num 1", "num 1", "field 2"))})
	for _, ask := range []int64{1, 7, api.MaxPrice, 7} {
		expectFires(t, x, begun(), api.Snap{Ask: ask}, fires(4, 0, api.Action{Act: api.ActSubmit, Kind: api.Now, Side: api.Buy, Qty: 1, Price: ask}), begun())
	}
	x = doing(market(0, "num 1", "num 1"), set(0, "num 8"), submit(api.All, 0, "num 2", "num 2", "num 9"), goTo(1))
	first, second := api.Action{Act: api.ActSubmit, Kind: api.Market, Side: api.Buy, Qty: 1}, api.Action{Act: api.ActSubmit, Kind: api.All, Side: api.Sell, Qty: 2, Price: 9}
	expectFires(t, x, begun(), api.Snap{}, fires(7, 0, first, second), mode(1, 8, -6, 7))
	x = doing(cancel(1), set(0, "reg 0, num 1, add"))
	expectFires(t, x, begun(), api.Snap{}, fires(4, 0, api.Action{Act: api.ActCancel, Slot: 1}), mode(0, 6, -6, 7))
}
