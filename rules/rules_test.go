package rules_test

import (
	"math"
	"testing"

	"tripwire/api"
)

var (
	kinds = []api.Kind{api.Limit, api.Market, api.Now, api.All, api.Post}
	both  = []api.Side{api.Buy, api.Sell}
)

// widest are the rules that leave most free.
func widest() api.Rules {
	return api.Rules{Clients: api.MaxClients, Tick: 1, Lot: 1, Low: 1, High: api.MaxPrice, Most: api.MaxQty}
}

// tightest are rules under which one price fits, and one quantity.
func tightest() api.Rules {
	return api.Rules{Clients: 1, Tick: api.MaxPrice, Lot: api.MaxQty, Low: api.MaxPrice, High: api.MaxPrice, Most: api.MaxQty}
}

// changed is plain rules with one change.
func changed(change func(r *api.Rules)) api.Rules {
	r := plain()
	change(&r)
	return r
}

// expectRules asks whether rules may be: of Check, and of all the other calls that say so.
func expectRules(t *testing.T, r api.Rules, mayBe bool) {
	t.Helper()
	if !mayBe {
		expectMayNotBe(t, r)
		return
	}
	expectCheck(t, r, api.OK)
	for _, k := range kinds {
		for _, s := range both {
			en := api.Entry{Client: r.Clients, Kind: k, Side: s, Price: r.High, Qty: r.Most}
			if k == api.Market {
				en.Price = 0
			}
			expectEntry(t, r, en, api.OK)
		}
	}
	expectAmend(t, r, r.Low, r.Lot, api.OK)
	expectRound(t, r, api.Buy, greatest, r.High)
	expectRound(t, r, api.Sell, least, r.Low)
}

func TestRulesOfAllAndOfNone(t *testing.T) {
	expectRules(t, plain(), true)
	expectRules(t, widest(), true)
	expectRules(t, tightest(), true)
	expectRules(t, api.Rules{}, false)
	expectRules(t, api.Rules{Clients: math.MinInt, Tick: least, Lot: least, Low: least, High: least, Most: least}, false)
	expectRules(t, api.Rules{Clients: math.MaxInt, Tick: greatest, Lot: greatest, Low: greatest, High: greatest, Most: greatest}, false)
	expectRules(t, api.Rules{Clients: -1, Tick: -1, Lot: -1, Low: -1, High: -1, Most: -1}, false)
}

func TestClients(t *testing.T) {
	for n := 1; n <= api.MaxClients; n++ {
		expectRules(t, changed(func(r *api.Rules) { r.Clients = n }), true)
	}
	for _, n := range []int{math.MinInt, -8, -1, 0, 9, 10, 256 + 1, 1<<32 + 1, math.MaxInt} {
		expectRules(t, changed(func(r *api.Rules) { r.Clients = n }), false)
	}
}

// Each number with all the others such that nothing but its own bounds can forbid it.
func TestTickAndLotAtTheEdges(t *testing.T) {
	for _, c := range []struct {
		n     int64
		mayBe bool
	}{
		{least, false}, {-api.MaxPrice, false}, {-5, false}, {-1, false}, {0, false}, {1, true}, {2, true},
		{api.MaxPrice - 1, true}, {api.MaxPrice, true}, {api.MaxPrice + 1, false}, {1 << 32, false}, {1<<32 + 1, false}, {greatest, false},
	} {
		r := widest()
		r.Tick, r.Low, r.High = c.n, c.n, c.n
		expectRules(t, r, c.mayBe)
		r = widest()
		r.Lot, r.Most = c.n, c.n
		expectRules(t, r, c.mayBe)
		expectRules(t, changed(func(r *api.Rules) { r.Tick = c.n }), c.n == 1 || c.n == 2)
		expectRules(t, changed(func(r *api.Rules) { r.Lot = c.n }), c.n == 1 || c.n == 2)
	}
}

// Of a band and a greatest quantity that are whole multiples of what is wrong: it is wrong all the same.
func TestTickAndLotThatDivide(t *testing.T) {
	for _, n := range []int64{-10, -5, -1, 0} {
		expectRules(t, changed(func(r *api.Rules) { r.Tick = n }), false)
		expectRules(t, changed(func(r *api.Rules) { r.Lot = n }), false)
	}
	for _, n := range []int64{1, 2, 4, 5, 10, 20, 25, 50, 100} {
		expectRules(t, changed(func(r *api.Rules) { r.Tick = n }), true)
		expectRules(t, changed(func(r *api.Rules) { r.Lot = n }), true)
	}
	expectRules(t, changed(func(r *api.Rules) { r.Tick = 200 }), false)
	expectRules(t, changed(func(r *api.Rules) { r.Tick = 3 }), false)
	expectRules(t, changed(func(r *api.Rules) { r.Tick = 40 }), false)
	expectRules(t, changed(func(r *api.Rules) { r.Lot = 1000 }), true)
	expectRules(t, changed(func(r *api.Rules) { r.Lot = 2000 }), false)
	expectRules(t, changed(func(r *api.Rules) { r.Lot = 3 }), false)
}

func TestTheBandAtTheEdges(t *testing.T) {
	for _, c := range []struct {
		low, high int64
		mayBe     bool
	}{
		{1, 1, true}, {1, 2, true}, {2, 1, false}, {5, 5, true}, {6, 5, false},
		{1, api.MaxPrice, true}, {api.MaxPrice, api.MaxPrice, true}, {api.MaxPrice, api.MaxPrice - 1, false},
		{0, 5, false}, {-1, 5, false}, {least, 5, false}, {0, 0, false}, {-1, -1, false}, {least, least, false}, {least, greatest, false},
		{1, api.MaxPrice + 1, false}, {api.MaxPrice + 1, api.MaxPrice + 1, false}, {api.MaxPrice + 1, api.MaxPrice, false}, {1, greatest, false}, {greatest, greatest, false},
		{1, 0, false}, {1, -1, false}, {1, least, false}, {greatest, 1, false}, {greatest, least, false},
		{1, 1<<32 + 5, false}, {1<<32 + 1, 5, false},
	} {
		r := widest()
		r.Low, r.High = c.low, c.high
		expectRules(t, r, c.mayBe)
	}
}

func TestTheBandIsOfWholeTicks(t *testing.T) {
	for n := int64(80); n <= 220; n++ {
		expectRules(t, changed(func(r *api.Rules) { r.Low = n }), n%5 == 0 && n <= 200)
		expectRules(t, changed(func(r *api.Rules) { r.High = n }), n%5 == 0 && n >= 100)
		expectRules(t, changed(func(r *api.Rules) { r.Low, r.High = n, n }), n%5 == 0)
	}
	for n := int64(-10); n <= 10; n++ {
		expectRules(t, changed(func(r *api.Rules) { r.Low = n }), n == 5 || n == 10)
	}
	for n := int64(api.MaxPrice - 10); n <= api.MaxPrice+10; n++ {
		expectRules(t, changed(func(r *api.Rules) { r.High = n }), n%5 == 0 && n <= api.MaxPrice)
	}
}

func TestMost(t *testing.T) {
	for n := int64(-20); n <= 40; n++ {
		expectRules(t, changed(func(r *api.Rules) { r.Most = n }), n >= 1 && n%10 == 0)
	}
	for n := int64(api.MaxQty - 20); n <= api.MaxQty+20; n++ {
		expectRules(t, changed(func(r *api.Rules) { r.Most = n }), n <= api.MaxQty && n%10 == 0)
	}
	for _, n := range []int64{least, least + 8, -1, 0, 1<<32 + 4, greatest, greatest - 7} {
		expectRules(t, changed(func(r *api.Rules) { r.Most = n }), false)
	}
	for _, n := range []int64{1, 2, 7, api.MaxQty - 1, api.MaxQty} {
		r := widest()
		r.Most = n
		expectRules(t, r, true)
	}
	for _, n := range []int64{least, -1, 0, api.MaxQty + 1, greatest} {
		r := widest()
		r.Most = n
		expectRules(t, r, false)
	}
}

func TestEntryClient(t *testing.T) {
	for clients := 1; clients <= api.MaxClients; clients++ {
		r := changed(func(r *api.Rules) { r.Clients = clients })
		for n := -2; n <= api.MaxClients+2; n++ {
			en, want := taken(), client
			en.Client = n
			if n >= 1 && n <= clients {
				want = api.OK
			}
			expectEntry(t, r, en, want)
		}
		for _, n := range []int{math.MinInt, -clients, 1<<32 + 1, 256 + 1, math.MaxInt} {
			en := taken()
			en.Client = n
			expectEntry(t, r, en, client)
		}
	}
}

func TestEntryKindAndSide(t *testing.T) {
	for n := range 256 {
		en, want := taken(), kind
		en.Kind = api.Kind(n)
		if n >= 1 && n <= 5 {
			want = api.OK
		}
		if en.Kind == api.Market {
			en.Price = 0
		}
		expectEntry(t, plain(), en, want)
		for _, k := range kinds {
			en, want := taken(), side
			en.Kind, en.Side = k, api.Side(n)
			if n == 1 || n == 2 {
				want = api.OK
			}
			if k == api.Market {
				en.Price = 0
			}
			expectEntry(t, plain(), en, want)
		}
	}
}

// expectQty asks of one quantity, of each kind and side, and of an amend.
func expectQty(t *testing.T, r api.Rules, n int64, want api.Errno) {
	t.Helper()
	for _, k := range kinds {
		for _, s := range both {
			en := api.Entry{Client: 1, Kind: k, Side: s, Price: r.Low, Qty: n}
			if k == api.Market {
				en.Price = 0
			}
			expectEntry(t, r, en, want)
		}
	}
	expectAmend(t, r, r.High, n, want)
}

func TestQty(t *testing.T) {
	for n := int64(-25); n <= 1100; n++ {
		want := qty
		if n >= 10 && n <= 1000 && n%10 == 0 {
			want = api.OK
		}
		expectQty(t, plain(), n, want)
	}
	for _, n := range []int64{least, least + 8, -1000, 1<<32 + 4, greatest, greatest - 7} {
		expectQty(t, plain(), n, qty)
	}
	for _, n := range []int64{1, 2, api.MaxQty - 1, api.MaxQty} {
		expectQty(t, widest(), n, api.OK)
	}
	for _, n := range []int64{least, -1, 0, api.MaxQty + 1, 1<<32 + 1, greatest} {
		expectQty(t, widest(), n, qty)
	}
	for _, n := range []int64{least, -api.MaxQty, -1, 0, 1, api.MaxQty - 1, api.MaxQty + 1, 2 * api.MaxQty, greatest} {
		expectQty(t, tightest(), n, qty)
	}
	expectQty(t, tightest(), api.MaxQty, api.OK)
}

// expectPrice asks of one price, of each kind and side, and of an amend.
func expectPrice(t *testing.T, r api.Rules, n int64, fits bool) {
	t.Helper()
	want := price
	if fits {
		want = api.OK
	}
	for _, k := range kinds {
		for _, s := range both {
			want := want
			if k == api.Market {
				want = price
				if n == 0 {
					want = api.OK
				}
			}
			expectEntry(t, r, api.Entry{Client: 1, Kind: k, Side: s, Price: n, Qty: r.Most}, want)
		}
	}
	expectAmend(t, r, n, r.Lot, want)
}

func TestPrice(t *testing.T) {
	for n := int64(-210); n <= 410; n++ {
		expectPrice(t, plain(), n, n >= 100 && n <= 200 && n%5 == 0)
	}
	for _, n := range []int64{least, least + 8, 1<<32 + 104, greatest, greatest - 7} {
		expectPrice(t, plain(), n, false)
	}
	for _, n := range []int64{1, 2, api.MaxPrice - 1, api.MaxPrice} {
		expectPrice(t, widest(), n, true)
	}
	for _, n := range []int64{least, -1, 0, api.MaxPrice + 1, 1<<32 + 1, greatest} {
		expectPrice(t, widest(), n, false)
	}
	for _, n := range []int64{least, -api.MaxPrice, -1, 0, 1, api.MaxPrice - 1, api.MaxPrice + 1, 2 * api.MaxPrice, greatest} {
		expectPrice(t, tightest(), n, false)
	}
	expectPrice(t, tightest(), api.MaxPrice, true)
}

// One price alone fits, where Low is High.
func TestABandOfOnePrice(t *testing.T) {
	r := changed(func(r *api.Rules) { r.Low, r.High = 150, 150 })
	for n := int64(135); n <= 165; n++ {
		expectPrice(t, r, n, n == 150)
		buy, sell := int64(0), int64(0)
		if n >= 150 {
			buy = 150
		}
		if n <= 150 {
			sell = 150
		}
		expectRound(t, r, api.Buy, n, buy)
		expectRound(t, r, api.Sell, n, sell)
	}
}

// wrongs are the ways in which an entry may be wrong, in the order in which the chapter's words name them.
var wrongs = []struct {
	is api.Errno
	do func(en *api.Entry)
}{
	{client, func(en *api.Entry) { en.Client = 0 }},
	{client, func(en *api.Entry) { en.Client = 3 }},
	{kind, func(en *api.Entry) { en.Kind = 0 }},
	{kind, func(en *api.Entry) { en.Kind = 6 }},
	{side, func(en *api.Entry) { en.Side = 0 }},
	{side, func(en *api.Entry) { en.Side = 3 }},
	{qty, func(en *api.Entry) { en.Qty = 15 }},
	{qty, func(en *api.Entry) { en.Qty = 0 }},
	{qty, func(en *api.Entry) { en.Qty = 1010 }},
	{price, func(en *api.Entry) { en.Price = 103 }},
	{price, func(en *api.Entry) { en.Price = 95 }},
	{price, func(en *api.Entry) { en.Price = 205 }},
}

// Every set of them at once, and so every pair: the first one is told.
func TestSeveralWrongAtOnce(t *testing.T) {
	for set := range 1 << len(wrongs) {
		for _, k := range []api.Kind{api.Limit, api.Market, api.Post} {
			en, want := taken(), api.OK
			en.Kind = k
			if k == api.Market {
				en.Price = 0
			}
			for i, w := range wrongs {
				if set>>i&1 == 0 {
					continue
				}
				w.do(&en)
				if want == api.OK {
					want = w.is
				}
			}
			expectEntry(t, plain(), en, want)
		}
	}
}

// Rules that may not be are named ahead of all that may be wrong in an entry, or in an amend.
func TestRulesThatMayNotBeComeFirst(t *testing.T) {
	for _, change := range []func(r *api.Rules){
		func(r *api.Rules) { r.Clients = 0 }, func(r *api.Rules) { r.Clients = 9 },
		func(r *api.Rules) { r.Tick = 0 }, func(r *api.Rules) { r.Lot = 0 },
		func(r *api.Rules) { r.Low = 0 }, func(r *api.Rules) { r.High = 0 }, func(r *api.Rules) { r.Most = 0 },
	} {
		r := changed(change)
		expectMayNotBe(t, r)
		for _, w := range wrongs {
			en := taken()
			w.do(&en)
			expectEntry(t, r, en, config)
			expectAmend(t, r, en.Price, en.Qty, config)
		}
	}
}

func TestAmendBothWrong(t *testing.T) {
	for _, q := range []int64{least, -10, 0, 15, 1010, greatest} {
		for _, p := range []int64{least, -105, 0, 95, 103, 205, greatest} {
			expectAmend(t, plain(), p, q, qty)
			expectAmend(t, plain(), p, 20, price)
			expectAmend(t, plain(), 105, q, qty)
		}
	}
	expectAmend(t, plain(), 100, 10, api.OK)
	expectAmend(t, plain(), 200, 1000, api.OK)
}

func TestRound(t *testing.T) {
	for _, c := range []struct{ n, buy, sell int64 }{
		{least, 0, 100}, {least + 1, 0, 100}, {-api.MaxPrice, 0, 100}, {-105, 0, 100}, {-1, 0, 100}, {0, 0, 100}, {1, 0, 100}, {5, 0, 100},
		{95, 0, 100}, {99, 0, 100}, {100, 100, 100}, {101, 100, 105}, {104, 100, 105}, {105, 105, 105}, {106, 105, 110},
		{194, 190, 195}, {195, 195, 195}, {196, 195, 200}, {199, 195, 200}, {200, 200, 200}, {201, 200, 0}, {205, 200, 0},
		{api.MaxPrice, 200, 0}, {api.MaxPrice + 1, 200, 0}, {1<<32 + 103, 200, 0}, {greatest - 1, 200, 0}, {greatest, 200, 0},
	} {
		expectRound(t, plain(), api.Buy, c.n, c.buy)
		expectRound(t, plain(), api.Sell, c.n, c.sell)
		for _, side := range []api.Side{0, 3, 4, 5, 6, 254, 255} {
			expectRound(t, plain(), side, c.n, 0)
		}
	}
}

func TestRoundAtTheBounds(t *testing.T) {
	for _, c := range []struct {
		r            api.Rules
		n, buy, sell int64
	}{
		{widest(), least, 0, 1}, {widest(), -1, 0, 1}, {widest(), 0, 0, 1}, {widest(), 1, 1, 1}, {widest(), 2, 2, 2},
		{widest(), api.MaxPrice, api.MaxPrice, api.MaxPrice}, {widest(), api.MaxPrice + 1, api.MaxPrice, 0}, {widest(), greatest, api.MaxPrice, 0},
		{tightest(), least, 0, api.MaxPrice}, {tightest(), 0, 0, api.MaxPrice}, {tightest(), 1, 0, api.MaxPrice}, {tightest(), api.MaxPrice - 1, 0, api.MaxPrice},
		{tightest(), api.MaxPrice, api.MaxPrice, api.MaxPrice}, {tightest(), api.MaxPrice + 1, api.MaxPrice, 0}, {tightest(), greatest, api.MaxPrice, 0},
	} {
		expectRound(t, c.r, api.Buy, c.n, c.buy)
		expectRound(t, c.r, api.Sell, c.n, c.sell)
		expectRound(t, c.r, 0, c.n, 0)
		expectRound(t, c.r, 3, c.n, 0)
	}
}

// Whatever the tick, each price of the band goes to the multiple below it, or above.
func TestRoundOfEveryTick(t *testing.T) {
	for tick := int64(1); tick <= 12; tick++ {
		r := api.Rules{Clients: 1, Tick: tick, Lot: 1, Low: 2 * tick, High: 5 * tick, Most: 1}
		for n := 2 * tick; n <= 5*tick; n++ {
			expectRound(t, r, api.Buy, n, n/tick*tick)
			expectRound(t, r, api.Sell, n, (n+tick-1)/tick*tick)
		}
		expectRound(t, r, api.Buy, 2*tick-1, 0)
		expectRound(t, r, api.Sell, 5*tick+1, 0)
	}
}

// The calls keep nothing: the same is told whatever was asked in between (R5, R8).
func TestAskedAgain(t *testing.T) {
	bad := changed(func(r *api.Rules) { r.Tick = 0 })
	for range 3 {
		expectCheck(t, bad, config)
		expectCheck(t, plain(), api.OK)
		expectEntry(t, bad, taken(), config)
		expectEntry(t, plain(), taken(), api.OK)
		expectEntry(t, plain(), api.Entry{Client: 1, Kind: api.Market, Side: api.Buy, Qty: 10}, api.OK)
		expectEntry(t, plain(), api.Entry{Client: 1, Kind: api.Limit, Side: api.Buy, Qty: 10}, price)
		expectAmend(t, widest(), 103, 15, api.OK)
		expectAmend(t, plain(), 103, 15, qty)
		expectRound(t, widest(), api.Buy, 103, 103)
		expectRound(t, plain(), api.Buy, 103, 100)
	}
}
