package mean_test

import (
	"testing"

	"tripwire/api"
	"tripwire/mean"
)

const exampleText = "strategy s { reg n int = 2; slot o; state a { when has bid && bid > 5p do submit buy of qty(n) at bid - 1p post as o, set n = n + 1, goto b; when 10 / n > 4 do halt; } state b { when last > 0p do cancel o; } }"

func TestExamples(t *testing.T) {
	s := strategy(t, exampleText)
	expectStart(t, s, 2)
	bought := api.Action{Act: api.ActSubmit, Kind: api.Post, Side: api.Buy, Qty: 2, Price: 8, Slot: 1}
	nine, noughts := api.Snap{Bid: 9}, api.Snap{}
	expectTurn(t, s, mode(0, 2), nine, true, fires(0, bought), mode(1, 3))
	expectTurn(t, s, mode(0, 2), nine, false, isRefused(0), mode(0, 2))
	expectStays(t, s, mode(0, 2), noughts, halts(1))
	expectStays(t, s, mode(0, 0), noughts, faults(zero))
	expectStays(t, s, mode(0, 9), api.Snap{Bid: 3}, nothing())
	expectStays(t, s, mode(1, 3), noughts, faults(absent))
	expectNoTurn(t, s, mode(2, 3), noughts, noMode)
	expectNoTurn(t, s, mode(0), noughts, noMode)
}

// The third of DOC.md: it buys of the first order that is offered, once.
func TestBuysOnce(t *testing.T) {
	s := strategy(t, "strategy s { reg n int = 0; slot o; state a { when has ask && n < 1 do submit buy of 2q at ask limit as o, set n = n + 1; } }")
	m, no := mean.Start(s)
	if no != api.OK {
		t.Fatal(no)
	}
	expectStays(t, s, m, api.Snap{}, nothing())
	offered := api.Snap{Ask: 10}
	expectFires(t, s, m, offered, fires(0, api.Action{Act: api.ActSubmit, Kind: api.Limit, Side: api.Buy, Qty: 2, Price: 10, Slot: 1}), mode(0, 1))
	expectStays(t, s, mode(0, 1), offered, nothing())
}

// The fourth and the fifth: what is not there, or divides by nought, faults where the text comes to it.
func TestFaultsOfTheDocument(t *testing.T) {
	s := strategy(t, "strategy s { state a { when bid > 3p do halt; } }")
	expectStays(t, s, mode(0), api.Snap{}, faults(absent))
	expectStays(t, s, mode(0), api.Snap{Bid: 3}, nothing())
	expectStays(t, s, mode(0), api.Snap{Bid: 4}, halts(0))
	s = strategy(t, "strategy s { state a { when has bid && bid > 3p do halt; } }")
	expectStays(t, s, mode(0), api.Snap{}, nothing())
	expectStays(t, s, mode(0), api.Snap{Bid: 4}, halts(0))
	s = strategy(t, "strategy s { reg n int = 0; state a { when 10 / n > 3 || has bid do halt; } }")
	expectStays(t, s, mode(0, 0), api.Snap{}, faults(zero))
	expectStays(t, s, mode(0, 0), api.Snap{Bid: 9}, faults(zero))
	expectStays(t, s, mode(0, 2), api.Snap{}, halts(0))
	expectStays(t, s, mode(0, 5), api.Snap{Bid: 9}, halts(0))
	s = strategy(t, "strategy s { reg n int = 0; state a { when has bid || 10 / n > 3 do halt; } }")
	expectStays(t, s, mode(0, 0), api.Snap{}, faults(zero))
	expectStays(t, s, mode(0, 0), api.Snap{Bid: 9}, halts(0))
}

// The sixth, the seventh and the eighth: it fires again and again, whole or not at all, whether the market will take it or not.
func TestFiresAgain(t *testing.T) {
	s := strategy(t, "strategy s { state a { when has ask do submit buy of 1q at ask ioc; } }")
	for _, ask := range []int64{1, 7, api.MaxPrice, 7} {
		expectFires(t, s, mode(0), api.Snap{Ask: ask}, fires(0, api.Action{Act: api.ActSubmit, Kind: api.Now, Side: api.Buy, Qty: 1, Price: ask}), mode(0))
	}
	s = strategy(t, "strategy s { reg n int = 7; state a { when true do submit buy of 1q market, set n = 8, submit sell of 2q at 9p fok, goto b; } state b {} }")
	first, second := api.Action{Act: api.ActSubmit, Kind: api.Market, Side: api.Buy, Qty: 1}, api.Action{Act: api.ActSubmit, Kind: api.All, Side: api.Sell, Qty: 2, Price: 9}
	expectFires(t, s, mode(0, 7), api.Snap{}, fires(0, first, second), mode(1, 8))
	s = strategy(t, "strategy s { reg n int = 0; slot o; state a { when true do cancel o, set n = n + 1; } }")
	expectFires(t, s, mode(0, 0), api.Snap{}, fires(0, api.Action{Act: api.ActCancel, Slot: 1}), mode(0, 1))
	expectFires(t, s, mode(0, 1), api.Snap{}, fires(0, api.Action{Act: api.ActCancel, Slot: 1}), mode(0, 2))
}

// Expressions as one writes them, with n 7, lim 20, done false, way sell.
func TestExpressionsAsOneWritesThem(t *testing.T) {
	s := strategy(t, "strategy s { reg n int = 1; reg lim price = 1p; reg done bool = true; reg way side = buy; reg since time = 0t; state a {} }")
	m := mode(0, 7, 20, 0, 2, 70)
	for text, want := range map[string]int64{
		"1 + 2 * 3": 7, "(1 + 2) * 3": 9, "1 - 2 - 3": -4, "1 - (2 - 3)": 2, "-n % 4": -3, "n % -4": 3, "7 / 2 * 2": 6, "-7 / 2": -3,
		"bid + 1p": 12, "ask - bid": 2, "bid * volume": 11011, "lim / bid": 1, "lim / 3": 6, "n * lim": 140, "min(ask, lim)": 13, "max(ask, lim)": 20,
		"now - since >= 5t": 1, "now - since > 7t": 0, "has bid && bid < lim": 1, "!done": 1, "done || !done": 1, "done == false": 1, "way == sell": 1, "way != sell": 0,
		"way == buy ? bid : ask": 13, "done ? 1 : n > 6 ? 2 : 3": 2, "price(n) + 1p": 8, "qty(lim - bid)": 9, "time(-n)": -7, "int(open) % 10": 5, "abs(bid - ask)": 2, "-(-n)": 7,
	} {
		expectValue(t, s, expr(t, text), m, seen(), want)
	}
}
