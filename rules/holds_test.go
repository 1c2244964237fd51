package rules_test

import (
	"testing"

	"tripwire/api"
	"tripwire/rules"
)

// multiple says by counting, not by dividing, if a small number is so many times a step.
func multiple(n, step int64) bool {
	for m := int64(0); m <= n; m += step {
		if m == n {
			return true
		}
	}
	return false
}

// mayBe is what the chapter asks of rules with small numbers, one after the other.
func mayBe(r api.Rules) bool {
	for _, holds := range []func() bool{
		func() bool { return 1 <= r.Clients && r.Clients <= 8 },
		func() bool { return 1 <= r.Tick && r.Tick <= 1000000000 },
		func() bool { return 1 <= r.Lot && r.Lot <= 1000000000 },
		func() bool { return 1 <= r.Low && r.Low <= r.High },
		func() bool { return r.High <= 1000000000 },
		func() bool { return multiple(r.Low, r.Tick) && multiple(r.High, r.Tick) },
		func() bool { return 1 <= r.Most && r.Most <= 1000000000 && multiple(r.Most, r.Lot) },
	} {
		if !holds() {
			return false
		}
	}
	return true
}

// pricesThatFit are all of them, from the least one on.
func pricesThatFit(r api.Rules) []int64 {
	var l []int64
	for n := r.Low; n <= r.High; n++ {
		if multiple(n, r.Tick) {
			l = append(l, n)
		}
	}
	return l
}

// rounded looks for the price that Round is to tell among all that fit.
func rounded(r api.Rules, side api.Side, asked int64) int64 {
	found := int64(0)
	if !mayBe(r) {
		return 0
	}
	for _, n := range pricesThatFit(r) {
		switch {
		case side == api.Buy && n <= asked:
			found = n
		case side == api.Sell && n >= asked && found == 0:
			found = n
		}
	}
	return found
}

func isOneOf(n int64, l []int64) bool {
	for _, m := range l {
		if m == n {
			return true
		}
	}
	return false
}

// judgedAmend is what an amend is told by the chapter's words.
func judgedAmend(r api.Rules, p, q int64) api.Errno {
	switch {
	case !mayBe(r):
		return config
	case !(1 <= q && q <= r.Most && multiple(q, r.Lot)):
		return qty
	case !isOneOf(p, pricesThatFit(r)):
		return price
	}
	return api.OK
}

// judgedEntry is what an entry is told by them.
func judgedEntry(r api.Rules, en api.Entry) api.Errno {
	if !mayBe(r) {
		return config
	}
	if !(1 <= en.Client && en.Client <= r.Clients) {
		return client
	}
	if !(1 <= en.Kind && en.Kind <= 5) {
		return kind
	}
	if !(en.Side == 1 || en.Side == 2) {
		return side
	}
	if en.Kind != 2 {
		return judgedAmend(r, en.Price, en.Qty)
	}
	if e := judgedAmend(r, r.Low, en.Qty); e != api.OK || en.Price == 0 {
		return e
	}
	return price
}

// smallRules goes through rules with numbers about nought, those that may be and those that may not.
func smallRules(do func(r api.Rules)) {
	const most = 6
	for tick := int64(-1); tick <= 4; tick++ {
		for low := int64(-1); low <= most; low++ {
			for high := int64(-1); high <= most; high++ {
				do(api.Rules{Clients: 2, Tick: tick, Lot: 2, Low: low, High: high, Most: 4})
			}
		}
	}
	for clients := -1; clients <= 10; clients++ {
		for lot := int64(-1); lot <= 4; lot++ {
			for q := int64(-1); q <= most; q++ {
				do(api.Rules{Clients: clients, Tick: 2, Lot: lot, Low: 2, High: 4, Most: q})
			}
		}
	}
}

// TestAllSmallRules asks all there is to ask about all rules of small numbers.
func TestAllSmallRules(t *testing.T) {
	smallRules(func(r api.Rules) {
		want := config
		if mayBe(r) {
			want = api.OK
		}
		expectCheck(t, r, want)
		for p := int64(-2); p <= 8; p++ {
			for s := range api.Side(4) {
				expectRound(t, r, s, p, rounded(r, s, p))
			}
			for q := int64(-2); q <= 8; q++ {
				expectAmend(t, r, p, q, judgedAmend(r, p, q))
				for k := range api.Kind(7) {
					en := api.Entry{Client: 1 + int(q+2)%3, Kind: k, Side: api.Side(p+2) % 4, Price: p, Qty: q}
					expectEntry(t, r, en, judgedEntry(r, en))
				}
			}
		}
		if t.Failed() {
			t.Fatal("rules", r)
		}
	})
}

// TestAllSmallEntries asks about every entry of small numbers, under a few rules.
func TestAllSmallEntries(t *testing.T) {
	for _, r := range []api.Rules{
		{Clients: 1, Tick: 1, Lot: 1, Low: 1, High: 1, Most: 1}, {Clients: 2, Tick: 1, Lot: 2, Low: 2, High: 3, Most: 4},
		{Clients: 3, Tick: 2, Lot: 3, Low: 2, High: 4, Most: 3}, {Clients: 2, Tick: 2, Lot: 1, Low: 3, High: 4, Most: 1},
	} {
		for c := -1; c <= 4; c++ {
			for k := range api.Kind(7) {
				for s := range api.Side(4) {
					for p := int64(-1); p <= 5; p++ {
						for q := int64(-1); q <= 5; q++ {
							en := api.Entry{Client: c, Kind: k, Side: s, Price: p, Qty: q}
							expectEntry(t, r, en, judgedEntry(r, en))
						}
					}
				}
			}
		}
	}
}

// draw answers numbers that look drawn, and are the same each time.
func draw(from uint64) func(below int64) int64 {
	return func(below int64) int64 {
		from += 0x9e3779b97f4a7c15
		z := from
		z = (z ^ z>>30) * 0xbf58476d1ce4e5b9
		z = (z ^ z>>27) * 0x94d049bb133111eb
		return int64((z ^ z>>31) % uint64(below))
	}
}

// anyRules are rules that may be, of numbers of any length.
func anyRules(drawn func(int64) int64) api.Rules {
	upto := func(most int64) int64 { return 1 + drawn(1+drawn(1+drawn(most))) }
	r := api.Rules{Clients: int(upto(api.MaxClients)), Tick: upto(api.MaxPrice), Lot: upto(api.MaxQty)}
	high := upto(api.MaxPrice / r.Tick)
	r.Low, r.High = upto(high)*r.Tick, high*r.Tick
	r.Most = upto(api.MaxQty/r.Lot) * r.Lot
	return r
}

// anyPrice is one within or about a band, or any number at all.
func anyPrice(drawn func(int64) int64, r api.Rules) int64 {
	switch drawn(8) {
	case 0:
		return drawn(greatest)
	case 1:
		return -1 - drawn(greatest)
	case 2:
		return r.Low - 1 + drawn(3)
	case 3:
		return r.High - 1 + drawn(3)
	case 4:
		return r.Low + drawn(r.High-r.Low+1)/r.Tick*r.Tick
	case 5:
		edges := []int64{least, -1, 0, 1, api.MaxPrice, api.MaxPrice + 1, greatest}
		return edges[drawn(int64(len(edges)))]
	}
	return r.Low - r.Tick + drawn(r.High-r.Low+2*r.Tick)
}

// fitsRules asks of the package itself whether a price fits.
func fitsRules(r api.Rules, p int64) bool {
	return rules.Amend(r, p, r.Lot) == api.OK
}

// expectRoundHolds is the chapter's first row of 'What holds': what Round tells fits, is told of itself, and nothing that fits lies between. The multiples of the tick next to a price that fits are the only ones that could.
func expectRoundHolds(t *testing.T, r api.Rules, asked int64) {
	t.Helper()
	if n := rules.Round(r, api.Buy, asked); n == 0 {
		if asked >= r.Low {
			t.Errorf("Round(%+v, Buy, %d) is 0; %d fits", r, asked, r.Low)
		}
	} else if !fitsRules(r, n) || n > asked || n+r.Tick <= asked && fitsRules(r, n+r.Tick) || rules.Round(r, api.Buy, n) != n {
		t.Errorf("Round(%+v, Buy, %d) is %d", r, asked, n)
	}
	if n := rules.Round(r, api.Sell, asked); n == 0 {
		if asked <= r.High {
			t.Errorf("Round(%+v, Sell, %d) is 0; %d fits", r, asked, r.High)
		}
	} else if !fitsRules(r, n) || n < asked || n-r.Tick >= asked && fitsRules(r, n-r.Tick) || rules.Round(r, api.Sell, n) != n {
		t.Errorf("Round(%+v, Sell, %d) is %d", r, asked, n)
	}
}

func TestRoundHolds(t *testing.T) {
	drawn := draw(7)
	for range 4000 {
		r := anyRules(drawn)
		expectCheck(t, r, api.OK)
		for range 12 {
			p := anyPrice(drawn, r)
			expectRoundHolds(t, r, p)
			both := rules.Round(r, api.Buy, p) == p && rules.Round(r, api.Sell, p) == p
			if p != 0 && both != fitsRules(r, p) {
				t.Errorf("%+v: %d fits: %t; Round of it is itself: %t", r, p, fitsRules(r, p), both)
			}
		}
		if t.Failed() {
			t.Fatal("rules", r)
		}
	}
}

// Entry, Amend and Round say the same of a price: it fits, or not.
func TestTheCallsFitOneAnother(t *testing.T) {
	drawn := draw(8)
	for range 4000 {
		r := anyRules(drawn)
		for range 6 {
			p, q := anyPrice(drawn, r), r.Lot*drawn(r.Most/r.Lot+2)
			amend := rules.Amend(r, p, q)
			for _, k := range kinds {
				for _, s := range both {
					en := api.Entry{Client: 1 + int(drawn(int64(r.Clients))), Kind: k, Side: s, Price: p, Qty: q}
					if k != api.Market {
						expectEntry(t, r, en, amend)
						continue
					}
					en.Price = 0
					expectEntry(t, r, en, rules.Amend(r, r.Low, q))
				}
			}
			for _, s := range both {
				if n := rules.Round(r, s, p); n != 0 {
					expectAmend(t, r, n, r.Lot, api.OK)
					expectEntry(t, r, api.Entry{Client: 1, Kind: api.Post, Side: s, Price: n, Qty: r.Most}, api.OK)
				}
			}
		}
		if t.Failed() {
			t.Fatal("rules", r)
		}
	}
}

// The chapter's second row of 'What holds': an entry that is taken is taken with any lesser quantity that fits, too.
func TestALesserQuantityIsTaken(t *testing.T) {
	drawn := draw(9)
	for range 4000 {
		r := anyRules(drawn)
		k, s := kinds[drawn(5)], both[drawn(2)]
		en := api.Entry{Client: r.Clients, Kind: k, Side: s, Price: rules.Round(r, s, (r.Low+r.High)/2), Qty: r.Most}
		if k == api.Market {
			en.Price = 0
		}
		expectEntry(t, r, en, api.OK)
		for range 8 {
			en.Qty = r.Lot * (1 + drawn(en.Qty/r.Lot))
			expectEntry(t, r, en, api.OK)
		}
		en.Qty = r.Lot
		expectEntry(t, r, en, api.OK)
		en.Qty = 0
		expectEntry(t, r, en, qty)
		if t.Failed() {
			t.Fatal("rules", r)
		}
	}
}
