package rules_test

import (
	"math"
	"testing"

	"tripwire/api"
	"tripwire/rules"
)

const (
	config = api.ErrRulesConfig
	client = api.ErrRulesClient
	kind   = api.ErrRulesKind
	side   = api.ErrRulesSide
	qty    = api.ErrRulesQty
	price  = api.ErrRulesPrice

	least, greatest = math.MinInt64, math.MaxInt64
)

// plain are the rules of the chapter's examples.
func plain() api.Rules {
	return api.Rules{Clients: 2, Tick: 5, Lot: 10, Low: 100, High: 200, Most: 1000}
}

// taken is an entry that keeps to the plain rules.
func taken() api.Entry {
	return api.Entry{Client: 1, Kind: api.Limit, Side: api.Buy, Price: 105, Qty: 20}
}

func expectCheck(t *testing.T, r api.Rules, want api.Errno) {
	t.Helper()
	if e := rules.Check(r); e != want {
		t.Errorf("Check(%+v) is %d; want %d", r, e, want)
	}
}

func expectEntry(t *testing.T, r api.Rules, en api.Entry, want api.Errno) {
	t.Helper()
	if e := rules.Entry(r, en); e != want {
		t.Errorf("Entry(%+v, %+v) is %d; want %d", r, en, e, want)
	}
}

func expectAmend(t *testing.T, r api.Rules, price, qty int64, want api.Errno) {
	t.Helper()
	if e := rules.Amend(r, price, qty); e != want {
		t.Errorf("Amend(%+v, %d, %d) is %d; want %d", r, price, qty, e, want)
	}
}

func expectRound(t *testing.T, r api.Rules, side api.Side, price, want int64) {
	t.Helper()
	if n := rules.Round(r, side, price); n != want {
		t.Errorf("Round(%+v, %d, %d) is %d; want %d", r, side, price, n, want)
	}
}

// expectMayNotBe asks every call about rules that may not be, with what would be wrong, too, and with what would not.
func expectMayNotBe(t *testing.T, r api.Rules) {
	t.Helper()
	expectCheck(t, r, config)
	expectEntry(t, r, taken(), config)
	expectEntry(t, r, api.Entry{Client: 1, Kind: api.Market, Side: api.Sell, Qty: 20}, config)
	expectEntry(t, r, api.Entry{}, config)
	expectEntry(t, r, api.Entry{Client: 3, Kind: 6, Side: 3, Price: 103, Qty: 15}, config)
	expectAmend(t, r, 105, 20, config)
	expectAmend(t, r, 103, 15, config)
	expectAmend(t, r, 0, 0, config)
	for _, side := range []api.Side{0, api.Buy, api.Sell, 3} {
		for _, n := range []int64{least, -1, 0, 1, 100, 105, 150, 200, 1000, api.MaxPrice, greatest} {
			expectRound(t, r, side, n, 0)
		}
	}
}

// TestExampleEntry is the chapter's first example.
func TestExampleEntry(t *testing.T) {
	r, ok := plain(), taken()
	expectEntry(t, r, ok, api.OK)
	en := ok
	en.Client = 3
	expectEntry(t, r, en, client)
	en = ok
	en.Kind = 6
	expectEntry(t, r, en, kind)
	en = ok
	en.Side = 0
	expectEntry(t, r, en, side)
	for _, n := range []int64{15, 0, 1010} {
		en = ok
		en.Qty = n
		expectEntry(t, r, en, qty)
	}
	for _, n := range []int64{103, 95, 205, 0} {
		en = ok
		en.Price = n
		expectEntry(t, r, en, price)
	}
	en = ok
	en.Kind = api.Market
	expectEntry(t, r, en, price)
	en.Price = 0
	expectEntry(t, r, en, api.OK)
	expectEntry(t, r, api.Entry{Client: 3, Kind: 6, Side: 0, Price: 103, Qty: 15}, client)
}

// TestExampleRound is the chapter's second example.
func TestExampleRound(t *testing.T) {
	r := plain()
	expectRound(t, r, api.Buy, 103, 100)
	expectRound(t, r, api.Sell, 103, 105)
	expectRound(t, r, api.Buy, 99, 0)
	expectRound(t, r, api.Sell, 99, 100)
	expectRound(t, r, api.Buy, 1000, 200)
	expectRound(t, r, api.Sell, 201, 0)
}

// TestExampleConfig is the chapter's third example.
func TestExampleConfig(t *testing.T) {
	expectCheck(t, plain(), api.OK)
	r := plain()
	r.Low = 101
	expectMayNotBe(t, r)
	r = plain()
	r.Low, r.High = 200, 100
	expectMayNotBe(t, r)
}
