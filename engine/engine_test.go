package engine_test

import (
	"slices"
	"testing"

	"tripwire/api"
	"tripwire/engine"
)

// kinds and both are all that there are; noKinds and noSides some numbers that are none.
var (
	kinds   = []api.Kind{api.Limit, api.Market, api.Now, api.All, api.Post}
	noKinds = []api.Kind{0, 6, 7, 128, 255}
	both    = []api.Side{api.Buy, api.Sell}
	noSides = []api.Side{0, 3, 4, 128, 255}
)

// asked is the price of an entry of a kind: of a Market one there is none.
func asked(kind api.Kind, price int64) int64 {
	if kind == api.Market {
		return 0
	}
	return price
}

// other is the side that a side trades with.
func other(side api.Side) api.Side {
	if side == api.Buy {
		return api.Sell
	}
	return api.Buy
}

func expectNew(t *testing.T, c api.Config, want api.Errno) {
	t.Helper()
	if e, no := engine.New(c); (e != nil) != (want == api.OK) || no != want {
		t.Errorf("New(%+v) is %v, %d; want %d", c, e, no, want)
	}
}

func TestNewOfRules(t *testing.T) {
	for i, r := range []api.Rules{
		{},
		{Clients: 0, Tick: 1, Lot: 1, Low: 1, High: 100, Most: 100},
		{Clients: 9, Tick: 1, Lot: 1, Low: 1, High: 100, Most: 100},
		{Clients: 3, Tick: 0, Lot: 1, Low: 1, High: 100, Most: 100},
		{Clients: 3, Tick: 1, Lot: 0, Low: 1, High: 100, Most: 100},
		{Clients: 3, Tick: 1, Lot: 1, Low: 0, High: 100, Most: 100},
		{Clients: 3, Tick: 1, Lot: 1, Low: 101, High: 100, Most: 100},
		{Clients: 3, Tick: 3, Lot: 1, Low: 3, High: 100, Most: 100},
		{Clients: 3, Tick: 1, Lot: 3, Low: 1, High: 100, Most: 100},
		{Clients: 3, Tick: 1, Lot: 1, Low: 1, High: 100, Most: 0},
		{Clients: 3, Tick: 1, Lot: 1, Low: 1, High: api.MaxPrice + 1, Most: 100},
		{Clients: 3, Tick: 1, Lot: 1, Low: 1, High: 100, Most: api.MaxQty + 1},
	} {
		c := config()
		c.Rules = r
		expectNew(t, c, noRules)
		// Whatever else is wrong, the rules are asked first.
		c.Orders, c.Levels, c.Volume, c.IDs = 257*(i%2), -i%2, int64(i)-6, i-6
		expectNew(t, c, noRules)
	}
	expectNew(t, api.Config{}, noRules)
	c := config()
	c.Rules = api.Rules{Clients: 8, Tick: 5, Lot: 10, Low: 5, High: api.MaxPrice, Most: api.MaxQty}
	expectNew(t, c, api.OK)
}

func TestNewOfSizes(t *testing.T) {
	set := func(turn func(c *api.Config), want api.Errno) {
		t.Helper()
		c := config()
		turn(&c)
		expectNew(t, c, want)
	}
	for _, n := range []int{1, 2, 128} {
		set(func(c *api.Config) { c.Orders = n }, api.OK)
		set(func(c *api.Config) { c.Levels = n }, api.OK)
	}
	set(func(c *api.Config) { c.Orders = 256 }, api.OK)
	set(func(c *api.Config) { c.Levels = 129 }, wrong)
	set(func(c *api.Config) { c.Volume = api.MaxVolume }, api.OK)
	set(func(c *api.Config) { c.Volume = api.MaxVolume + 1 }, wrong)
	set(func(c *api.Config) { c.IDs = api.MaxIDs }, api.OK)
	set(func(c *api.Config) { c.IDs = api.MaxIDs + 1 }, wrong)
	for _, n := range []int{least, -1, 0, 257, 1<<32 + 1, greatest} {
		set(func(c *api.Config) { c.Orders = n }, wrong)
		set(func(c *api.Config) { c.Levels = n }, wrong)
	}
	for _, n := range []int{least, -1, greatest} {
		set(func(c *api.Config) { c.Volume = int64(n) }, wrong)
		set(func(c *api.Config) { c.IDs = n }, wrong)
	}
	for _, n := range []int{0, 1} {
		set(func(c *api.Config) { c.Volume = int64(n) }, api.OK)
		set(func(c *api.Config) { c.IDs = n }, api.OK)
	}
	set(func(c *api.Config) { c.Orders, c.Levels, c.Volume, c.IDs = 0, 0, -1, -1 }, wrong)
	set(func(c *api.Config) { c.Orders, c.Levels, c.Volume, c.IDs = 1, 1, 0, 0 }, api.OK)
	set(func(c *api.Config) { c.Orders, c.Levels, c.Volume, c.IDs = 256, 128, api.MaxVolume, api.MaxIDs }, api.OK)
}

// What is the venue's is not looked at.
func TestNewOfOtherFields(t *testing.T) {
	for _, n := range []int{least, -1, 0, 1, greatest} {
		c := config()
		c.Rounds, c.Strats, c.Open, c.Acts, c.Window = n, n, n, n, int64(n)
		e := made(t, c, two()...)
		expectEnter(t, e, limit(3, api.Buy, 10, 1), 3, event(api.Accepted, 3, 3, api.Buy, 10, 1), traded(3, 1, 3, 1, api.Buy, 10, 1))
	}
}

func TestANewEngine(t *testing.T) {
	e := made(t, config())
	expectTop(t, e, 0, 0, 0, 0)
	expectOrders(t, e)
	expectIDs(t, e, 0)
	for _, client := range []int{least, -1, 0, 1, 3, 4, 8, 9, greatest} {
		expectOpen(t, e, client, 0, 0)
	}
}

func TestRoomIsWhatNewWasTold(t *testing.T) {
	e := made(t, sized(1, 1), limit(1, api.Buy, 10, 1))
	expectNoEnter(t, e, limit(1, api.Buy, 10, 1), full)
	expectNoEnter(t, e, limit(1, api.Sell, 11, 1), full)
	e = made(t, sized(4, 1), limit(1, api.Buy, 10, 1), limit(1, api.Sell, 20, 1))
	expectNoEnter(t, e, limit(1, api.Buy, 11, 1), noPrice)
	expectNoEnter(t, e, limit(1, api.Sell, 19, 1), noPrice)
	expectNoEnter(t, e, entry(1, api.Post, api.Sell, 19, 1), noPrice)
	expectEnter(t, e, limit(2, api.Buy, 10, 1), 3, event(api.Accepted, 3, 2, api.Buy, 10, 1), event(api.Rested, 3, 2, api.Buy, 10, 1))

	c := sized(256, 128)
	c.Rules.High = 1000
	var all []api.Entry
	for i := range int64(128) {
		all = append(all, limit(1, api.Buy, 1+i, 1), limit(2, api.Sell, 500+i, 1))
	}
	e = made(t, c, all...)
	expectNoEnter(t, e, limit(1, api.Buy, 1, 1), full)
	expectCancel(t, e, 1, 1, event(api.Withdrawn, 1, 1, api.Buy, 1, 1))
	expectNoEnter(t, e, limit(1, api.Sell, 900, 1), noPrice)
	expectEnter(t, e, limit(1, api.Buy, 200, 1), 257, event(api.Accepted, 257, 1, api.Buy, 200, 1), event(api.Rested, 257, 1, api.Buy, 200, 1))
	expectOpen(t, e, 1, 128, 128)
	expectOpen(t, e, 2, 128, 128)
}

// Each kind against five lots at 10: less than these, as many, and more.
func TestEachKindOnBothSides(t *testing.T) {
	for _, side := range both {
		for _, kind := range kinds {
			for qty := int64(4); qty <= 6; qty++ {
				e := made(t, config(), limit(2, other(side), 10, 5))
				x := entry(1, kind, side, asked(kind, 10), qty)
				l := []api.Event{event(api.Accepted, 2, 1, side, x.Price, qty), traded(2, 1, 1, 2, side, 10, min(qty, 5))}
				switch {
				case kind == api.Post:
					expectNoEnter(t, e, x, cross)
					continue
				case qty > 5 && kind == api.All:
					expectNoEnter(t, e, x, kill)
					continue
				case qty > 5 && kind == api.Limit:
					l = append(l, event(api.Rested, 2, 1, side, 10, 1))
				case qty > 5:
					l = append(l, event(api.Dropped, 2, 1, side, x.Price, 1))
				}
				expectEnter(t, e, x, 2, l...)
				expectTop(t, e, map[bool]int64{true: 10}[open(e, api.Buy)], map[bool]int64{true: 10}[open(e, api.Sell)], 10, min(qty, 5))
			}
		}
	}
}

// open says if any order of a side rests.
func open(e *engine.Engine, side api.Side) bool {
	return slices.ContainsFunc(e.Orders(), func(o api.Order) bool { return o.Side == side })
}

func TestEntriesThatMeetNobody(t *testing.T) {
	for _, side := range both {
		e := made(t, config())
		expectEnter(t, e, limit(3, side, 10, 6), 1, event(api.Accepted, 1, 3, side, 10, 6), event(api.Rested, 1, 3, side, 10, 6))
		expectEnter(t, e, entry(3, api.Post, side, 10, 7), 2, event(api.Accepted, 2, 3, side, 10, 7), event(api.Rested, 2, 3, side, 10, 7))
		expectEnter(t, e, entry(1, api.Now, side, 10, 8), 3, event(api.Accepted, 3, 1, side, 10, 8), event(api.Dropped, 3, 1, side, 10, 8))
		expectEnter(t, e, entry(1, api.Market, side, 0, 9), 4, event(api.Accepted, 4, 1, side, 0, 9), event(api.Dropped, 4, 1, side, 0, 9))
		expectNoEnter(t, e, entry(1, api.All, side, 10, 1), kill)
		expectOrders(t, e, order(1, 3, side, 10, 6), order(2, 3, side, 10, 7))
		expectIDs(t, e, 4)
	}
}

func TestEntriesThatMeetOwnOrders(t *testing.T) {
	for _, side := range both {
		far := other(side)
		for _, kind := range []api.Kind{api.Limit, api.Market, api.Now} {
			e := made(t, config(), limit(1, far, 10, 5), limit(1, far, 10, 6))
			x := entry(1, kind, side, asked(kind, 10), 2)
			l := []api.Event{event(api.Accepted, 3, 1, side, x.Price, 2), yielded(1, 3, 1, far, 10, 5), yielded(2, 3, 1, far, 10, 6), event(api.Dropped, 3, 1, side, x.Price, 2)}
			if kind == api.Limit {
				l[3].What = api.Rested
			}
			expectEnter(t, e, x, 3, l...)
			if top := e.Top(); top.Last != 0 || top.Volume != 0 {
				t.Errorf("Top is %+v, when nothing was traded", top)
			}
		}
		e := made(t, config(), limit(1, far, 10, 5))
		expectNoEnter(t, e, entry(1, api.All, side, 10, 5), kill)
		expectNoEnter(t, e, entry(1, api.Post, side, 10, 5), cross)
	}
}

// Own orders and others in turn, at two prices: the best price first, of one price the oldest; what is beyond is not touched.
func TestEntriesThatMeetBothInTurn(t *testing.T) {
	c := sized(9, 5)
	e := made(t, c, limit(2, api.Sell, 11, 3), limit(1, api.Sell, 10, 1), limit(2, api.Sell, 10, 2), limit(1, api.Sell, 11, 4), limit(3, api.Sell, 10, 5), limit(3, api.Sell, 12, 6))
	expectEnter(t, e, limit(1, api.Buy, 11, 20), 7,
		event(api.Accepted, 7, 1, api.Buy, 11, 20),
		yielded(2, 7, 1, api.Sell, 10, 1), traded(7, 3, 1, 2, api.Buy, 10, 2), traded(7, 5, 1, 3, api.Buy, 10, 5),
		traded(7, 1, 1, 2, api.Buy, 11, 3), yielded(4, 7, 1, api.Sell, 11, 4),
		event(api.Rested, 7, 1, api.Buy, 11, 10))
	expectTop(t, e, 11, 12, 11, 10)
	expectOrders(t, e, order(7, 1, api.Buy, 11, 10), order(6, 3, api.Sell, 12, 6))

	e = made(t, c, limit(2, api.Buy, 10, 3), limit(1, api.Buy, 11, 1), limit(2, api.Buy, 11, 2), limit(1, api.Buy, 10, 4), limit(3, api.Buy, 11, 5), limit(3, api.Buy, 9, 6))
	expectEnter(t, e, entry(1, api.Market, api.Sell, 0, 8), 7,
		event(api.Accepted, 7, 1, api.Sell, 0, 8),
		yielded(2, 7, 1, api.Buy, 11, 1), traded(7, 3, 1, 2, api.Sell, 11, 2), traded(7, 5, 1, 3, api.Sell, 11, 5), traded(7, 1, 1, 2, api.Sell, 10, 1))
	expectTop(t, e, 10, 0, 10, 8)
	expectOrders(t, e, order(1, 2, api.Buy, 10, 2), order(4, 1, api.Buy, 10, 4), order(6, 3, api.Buy, 9, 6))
}

// An order that trades in part keeps its place.
func TestWhoTradesInPartStaysAhead(t *testing.T) {
	e := made(t, config(), two()...)
	expectEnter(t, e, limit(3, api.Buy, 10, 2), 3, event(api.Accepted, 3, 3, api.Buy, 10, 2), traded(3, 1, 3, 1, api.Buy, 10, 2))
	expectEnter(t, e, limit(3, api.Buy, 10, 4), 4, event(api.Accepted, 4, 3, api.Buy, 10, 4), traded(4, 1, 3, 1, api.Buy, 10, 3), traded(4, 2, 3, 2, api.Buy, 10, 1))
	expectOrders(t, e, order(2, 2, api.Sell, 10, 4))
	expectTop(t, e, 0, 10, 10, 6)
}

func TestEnterIsRefusedByTheRules(t *testing.T) {
	c := config()
	c.Rules = api.Rules{Clients: 3, Tick: 5, Lot: 10, Low: 10, High: 100, Most: 200}
	c.IDs = 2
	e := made(t, c, limit(1, api.Sell, 10, 10))
	for _, client := range []int{least, -1, 0, 4, 8, 9, 1<<32 + 1, greatest} {
		expectNoEnter(t, e, limit(client, api.Sell, 10, 10), noClient)
		expectNoEnter(t, e, entry(client, 0, 0, 0, 0), noClient)
	}
	for _, kind := range noKinds {
		expectNoEnter(t, e, entry(1, kind, api.Sell, 10, 10), badKind)
		expectNoEnter(t, e, entry(1, kind, 0, 0, 0), badKind)
	}
	for _, side := range noSides {
		expectNoEnter(t, e, limit(1, side, 10, 10), badSide)
		expectNoEnter(t, e, limit(1, side, 0, 0), badSide)
	}
	for _, n := range []int64{least, -10, -1, 0, 1, 11, 210, greatest} {
		expectNoEnter(t, e, limit(1, api.Sell, 10, n), badQty)
		expectNoEnter(t, e, limit(1, api.Sell, 0, n), badQty)
	}
	for _, n := range []int64{least, -10, 0, 5, 11, 105, greatest} {
		expectNoEnter(t, e, limit(1, api.Sell, n, 10), badPrice)
	}
	expectNoEnter(t, e, entry(1, api.Market, api.Sell, 10, 10), badPrice)
	expectEnter(t, e, limit(3, api.Sell, 100, 200), 2, event(api.Accepted, 2, 3, api.Sell, 100, 200), event(api.Rested, 2, 3, api.Sell, 100, 200))
	// With no number left, the rules are still asked first.
	expectNoEnter(t, e, limit(4, api.Sell, 10, 10), noClient)
	expectNoEnter(t, e, limit(3, api.Sell, 11, 10), badPrice)
	expectNoEnter(t, e, limit(3, api.Sell, 10, 10), noNumber)
}

func TestNumbers(t *testing.T) {
	c := config()
	c.IDs = 0
	e := made(t, c)
	for _, kind := range kinds {
		expectNoEnter(t, e, entry(1, kind, api.Buy, asked(kind, 10), 1), noNumber)
	}
	expectIDs(t, e, 0)
	c.IDs = 3
	e = made(t, c)
	expectNoEnter(t, e, limit(1, api.Buy, 0, 1), badPrice)
	expectNoEnter(t, e, entry(1, api.All, api.Buy, 10, 1), kill)
	expectIDs(t, e, 0)
	expectEnter(t, e, limit(1, api.Sell, 10, 1), 1, event(api.Accepted, 1, 1, api.Sell, 10, 1), event(api.Rested, 1, 1, api.Sell, 10, 1))
	expectNoEnter(t, e, entry(2, api.Post, api.Buy, 10, 1), cross)
	expectIDs(t, e, 1)
	expectEnter(t, e, entry(1, api.Now, api.Buy, 9, 1), 2, event(api.Accepted, 2, 1, api.Buy, 9, 1), event(api.Dropped, 2, 1, api.Buy, 9, 1))
	// Neither an amend nor a cancel needs a number, nor gives one back.
	expectAmend(t, e, 1, 1, 11, 2, changed(api.Amended, 1, 1, api.Sell, 11, 2, 1), event(api.Rested, 1, 1, api.Sell, 11, 2))
	expectCancel(t, e, 1, 1, event(api.Withdrawn, 1, 1, api.Sell, 11, 2))
	expectIDs(t, e, 2)
	expectEnter(t, e, limit(2, api.Sell, 10, 1), 3, event(api.Accepted, 3, 2, api.Sell, 10, 1), event(api.Rested, 3, 2, api.Sell, 10, 1))
	// Where the plan would refuse, too, and too much would be traded, that there is no number is told.
	expectNoEnter(t, e, entry(1, api.Post, api.Buy, 10, 1), noNumber)
	expectNoEnter(t, e, entry(1, api.All, api.Buy, 10, 2), noNumber)
	expectNoEnter(t, e, limit(1, api.Buy, 9, 1), noNumber)
	expectAmend(t, e, 2, 3, 10, 3, changed(api.Amended, 3, 2, api.Sell, 10, 3, 1), event(api.Rested, 3, 2, api.Sell, 10, 3))
	expectAmend(t, e, 2, 3, 10, 2, changed(api.Reduced, 3, 2, api.Sell, 10, 2, 3))
	expectIDs(t, e, 3)
}

func TestVolume(t *testing.T) {
	for volume := int64(0); volume <= 6; volume++ {
		c := config()
		c.Volume = volume
		for qty := int64(1); qty <= 7; qty++ {
			for _, kind := range []api.Kind{api.Limit, api.Market, api.Now, api.All} {
				e := made(t, c, limit(1, api.Sell, 10, 7), limit(3, api.Sell, 10, 9))
				x := entry(3, kind, api.Buy, asked(kind, 10), qty)
				if qty > volume {
					expectNoEnter(t, e, x, tooMuch)
					continue
				}
				expectEnter(t, e, x, 3, event(api.Accepted, 3, 3, api.Buy, x.Price, qty), traded(3, 1, 3, 1, api.Buy, 10, qty))
				expectTop(t, e, 0, 10, 10, qty)
			}
		}
	}
	// Own orders that yield are not traded: of them there may be any number.
	c := config()
	c.Volume = 0
	e := made(t, c, limit(1, api.Sell, 10, 7))
	expectEnter(t, e, limit(1, api.Buy, 10, 7), 2, event(api.Accepted, 2, 1, api.Buy, 10, 7), yielded(1, 2, 1, api.Sell, 10, 7), event(api.Rested, 2, 1, api.Buy, 10, 7))
	expectNoEnter(t, e, entry(2, api.Market, api.Sell, 0, 1), tooMuch)
	expectTop(t, e, 10, 0, 0, 0)
}

// All trades count, of all calls.
func TestVolumeOfSeveralCalls(t *testing.T) {
	c := config()
	c.Volume = 10
	e := made(t, c, limit(1, api.Sell, 10, 7), limit(2, api.Sell, 11, 7))
	expectEnter(t, e, limit(3, api.Buy, 10, 4), 3, event(api.Accepted, 3, 3, api.Buy, 10, 4), traded(3, 1, 3, 1, api.Buy, 10, 4))
	expectNoEnter(t, e, limit(3, api.Buy, 11, 7), tooMuch)
	expectEnter(t, e, limit(3, api.Buy, 9, 8), 4, event(api.Accepted, 4, 3, api.Buy, 9, 8), event(api.Rested, 4, 3, api.Buy, 9, 8))
	expectNoAmend(t, e, 3, 4, 11, 7, tooMuch)
	expectNoAmend(t, e, 1, 1, 9, 7, tooMuch)
	expectAmend(t, e, 3, 4, 11, 6, changed(api.Amended, 4, 3, api.Buy, 11, 6, 8), traded(4, 1, 3, 1, api.Buy, 10, 3), traded(4, 2, 3, 2, api.Buy, 11, 3))
	expectTop(t, e, 0, 11, 11, 10)
	expectNoEnter(t, e, entry(3, api.Now, api.Buy, 11, 1), tooMuch)
	expectEnter(t, e, limit(3, api.Buy, 10, 1), 5, event(api.Accepted, 5, 3, api.Buy, 10, 1), event(api.Rested, 5, 3, api.Buy, 10, 1))
	expectNoAmend(t, e, 3, 5, 11, 1, tooMuch)
	expectAmend(t, e, 3, 5, 10, 2, changed(api.Amended, 5, 3, api.Buy, 10, 2, 1), event(api.Rested, 5, 3, api.Buy, 10, 2))
}

func TestTheGreatestVolume(t *testing.T) {
	c := sized(256, 1)
	c.Rules.Most, c.Volume = api.MaxQty, 3*api.MaxQty-1
	e := made(t, c, limit(1, api.Sell, 10, api.MaxQty), limit(1, api.Sell, 10, api.MaxQty), limit(1, api.Sell, 10, api.MaxQty))
	for i := range 2 {
		expectEnter(t, e, limit(2, api.Buy, 10, api.MaxQty), 4+i, event(api.Accepted, 4+i, 2, api.Buy, 10, api.MaxQty), traded(4+i, 1+i, 2, 1, api.Buy, 10, api.MaxQty))
	}
	expectNoEnter(t, e, limit(2, api.Buy, 10, api.MaxQty), tooMuch)
	expectEnter(t, e, limit(2, api.Buy, 10, api.MaxQty-1), 6, event(api.Accepted, 6, 2, api.Buy, 10, api.MaxQty-1), traded(6, 3, 2, 1, api.Buy, 10, api.MaxQty-1))
	expectTop(t, e, 0, 10, 10, 3*api.MaxQty-1)
	expectOpen(t, e, 1, 1, 1)
}

// Where the plan refuses, that is told, whether or not too much would be traded.
func TestThePlanIsAskedAheadOfTheVolume(t *testing.T) {
	c := sized(4, 1)
	c.Volume = 4
	e := made(t, c, limit(1, api.Sell, 10, 5), limit(2, api.Buy, 5, 1))
	expectNoEnter(t, e, entry(3, api.Post, api.Buy, 10, 5), cross)
	expectNoEnter(t, e, entry(3, api.All, api.Buy, 10, 6), kill)
	expectNoEnter(t, e, limit(3, api.Buy, 10, 6), noPrice)
	expectNoEnter(t, e, limit(3, api.Buy, 10, 5), tooMuch)
	expectEnter(t, e, limit(3, api.Buy, 5, 9), 3, event(api.Accepted, 3, 3, api.Buy, 5, 9), event(api.Rested, 3, 3, api.Buy, 5, 9))
	expectNoAmend(t, e, 3, 3, 10, 6, noPrice)
	expectNoAmend(t, e, 3, 3, 10, 5, tooMuch)
	expectOrders(t, e, order(2, 2, api.Buy, 5, 1), order(3, 3, api.Buy, 5, 9), order(1, 1, api.Sell, 10, 5))
}

func TestAFullBook(t *testing.T) {
	e := made(t, config(), append(two(), limit(3, api.Sell, 11, 5), limit(2, api.Buy, 8, 1))...)
	expectNoEnter(t, e, limit(3, api.Buy, 8, 1), full)
	expectNoEnter(t, e, limit(3, api.Buy, 9, 1), full)
	expectNoEnter(t, e, entry(3, api.Post, api.Sell, 10, 1), full)
	expectEnter(t, e, entry(3, api.Now, api.Buy, 9, 1), 5, event(api.Accepted, 5, 3, api.Buy, 9, 1), event(api.Dropped, 5, 3, api.Buy, 9, 1))
	// An amend needs no more room than it makes.
	expectAmend(t, e, 1, 1, 10, 6, changed(api.Amended, 1, 1, api.Sell, 10, 6, 5), event(api.Rested, 1, 1, api.Sell, 10, 6))
	expectOrders(t, e, order(4, 2, api.Buy, 8, 1), order(2, 2, api.Sell, 10, 5), order(1, 1, api.Sell, 10, 6), order(3, 3, api.Sell, 11, 5))
	// One whole order goes, and so there is room for what is left.
	expectEnter(t, e, limit(3, api.Buy, 10, 12), 6,
		event(api.Accepted, 6, 3, api.Buy, 10, 12), traded(6, 2, 3, 2, api.Buy, 10, 5), traded(6, 1, 3, 1, api.Buy, 10, 6), event(api.Rested, 6, 3, api.Buy, 10, 1))
}

func TestAmendOfNoneOfOnesOwn(t *testing.T) {
	e := made(t, config(), two()...)
	for _, id := range []int{least, -1, 0, 3, 1<<32 + 1, greatest} {
		expectNoAmend(t, e, 1, id, 11, 1, noOrder)
		// Whatever else is wrong.
		expectNoAmend(t, e, 9, id, 0, 0, noOrder)
	}
	for _, client := range []int{least, -1, 0, 2, 3, 4, 9, greatest} {
		expectNoAmend(t, e, client, 1, 11, 1, notOwn)
		expectNoAmend(t, e, client, 1, 10, 5, notOwn)
		expectNoAmend(t, e, client, 1, 10, 4, notOwn)
		expectNoAmend(t, e, client, 1, 0, 0, notOwn)
	}
	expectEnter(t, e, entry(3, api.Market, api.Buy, 0, 5), 3, event(api.Accepted, 3, 3, api.Buy, 0, 5), traded(3, 1, 3, 1, api.Buy, 10, 5))
	expectNoAmend(t, e, 1, 1, 10, 1, noOrder)
	expectNoAmend(t, e, 3, 3, 10, 1, noOrder)
}

func TestAmendIsRefusedByTheRules(t *testing.T) {
	c := config()
	c.Rules = api.Rules{Clients: 3, Tick: 5, Lot: 10, Low: 10, High: 100, Most: 200}
	e := made(t, c, limit(1, api.Sell, 20, 50))
	for _, n := range []int64{least, -10, -1, 0, 1, 49, 51, 210, greatest} {
		expectNoAmend(t, e, 1, 1, 20, n, badQty)
		expectNoAmend(t, e, 1, 1, 25, n, badQty)
		expectNoAmend(t, e, 1, 1, 0, n, badQty)
	}
	for _, n := range []int64{least, -10, -1, 0, 5, 21, 105, greatest} {
		expectNoAmend(t, e, 1, 1, n, 50, badPrice)
		expectNoAmend(t, e, 1, 1, n, 40, badPrice)
	}
	expectNoAmend(t, e, 1, 1, 20, 50, unmoved)
	expectAmend(t, e, 1, 1, 20, 10, changed(api.Reduced, 1, 1, api.Sell, 20, 10, 50))
	expectAmend(t, e, 1, 1, 20, 200, changed(api.Amended, 1, 1, api.Sell, 20, 200, 10), event(api.Rested, 1, 1, api.Sell, 20, 200))
	expectAmend(t, e, 1, 1, 100, 200, changed(api.Amended, 1, 1, api.Sell, 100, 200, 200), event(api.Rested, 1, 1, api.Sell, 100, 200))
}

// What is open counts, not what was entered.
func TestAmendToWhatIsOpen(t *testing.T) {
	for _, side := range both {
		e := made(t, config(), limit(1, side, 10, 5), limit(2, side, 10, 5), limit(3, other(side), 10, 2))
		expectNoAmend(t, e, 1, 1, 10, 3, unmoved)
		expectAmend(t, e, 1, 1, 10, 2, changed(api.Reduced, 1, 1, side, 10, 2, 3))
		expectAmend(t, e, 1, 1, 10, 1, changed(api.Reduced, 1, 1, side, 10, 1, 2))
		expectNoAmend(t, e, 1, 1, 10, 1, unmoved)
		expectOrders(t, e, order(1, 1, side, 10, 1), order(2, 2, side, 10, 5))
		expectAmend(t, e, 1, 1, 10, 5, changed(api.Amended, 1, 1, side, 10, 5, 1), event(api.Rested, 1, 1, side, 10, 5))
		expectOrders(t, e, order(2, 2, side, 10, 5), order(1, 1, side, 10, 5))
	}
}

// With its own price and less it keeps its place; with more, or another price and back again, it stands behind.
func TestPlacesBehindAmends(t *testing.T) {
	for _, side := range both {
		e := made(t, config(), limit(1, side, 10, 5), limit(2, side, 10, 5), limit(3, side, 10, 5))
		expectAmend(t, e, 1, 1, 10, 4, changed(api.Reduced, 1, 1, side, 10, 4, 5))
		expectOrders(t, e, order(1, 1, side, 10, 4), order(2, 2, side, 10, 5), order(3, 3, side, 10, 5))
		expectAmend(t, e, 1, 1, 10, 5, changed(api.Amended, 1, 1, side, 10, 5, 4), event(api.Rested, 1, 1, side, 10, 5))
		expectOrders(t, e, order(2, 2, side, 10, 5), order(3, 3, side, 10, 5), order(1, 1, side, 10, 5))
		expectAmend(t, e, 2, 2, 11, 5, changed(api.Amended, 2, 2, side, 11, 5, 5), event(api.Rested, 2, 2, side, 11, 5))
		expectAmend(t, e, 2, 2, 10, 4, changed(api.Amended, 2, 2, side, 10, 4, 5), event(api.Rested, 2, 2, side, 10, 4))
		expectOrders(t, e, order(3, 3, side, 10, 5), order(1, 1, side, 10, 5), order(2, 2, side, 10, 4))
		expectNoAmend(t, e, 3, 3, 10, 5, unmoved)
		expectNoAmend(t, e, 3, 3, 101, 5, badPrice)
		expectOrders(t, e, order(3, 3, side, 10, 5), order(1, 1, side, 10, 5), order(2, 2, side, 10, 4))
		expectTop(t, e, map[api.Side]int64{api.Buy: 10}[side], map[api.Side]int64{api.Sell: 10}[side], 0, 0)
	}
}

func TestAnAmendThatMeetsOthers(t *testing.T) {
	for _, side := range both {
		far := other(side)
		mine := map[api.Side]int64{api.Buy: 9, api.Sell: 11}[side]
		in := []api.Entry{limit(1, far, 10, 2), limit(2, far, 10, 3), limit(1, far, 10, 4), limit(1, side, mine, 8)}
		met := []api.Event{yielded(1, 4, 1, far, 10, 2), traded(4, 2, 1, 2, side, 10, 3), yielded(3, 4, 1, far, 10, 4)}
		for qty := int64(1); qty <= 9; qty++ {
			e := made(t, config(), in...)
			l := []api.Event{changed(api.Amended, 4, 1, side, 10, qty, 8)}
			switch {
			case qty < 3:
				l = append(l, met[0], traded(4, 2, 1, 2, side, 10, qty))
			case qty == 3:
				l = append(l, met[:2]...)
			default:
				l = append(append(l, met...), event(api.Rested, 4, 1, side, 10, qty-3))
			}
			expectAmend(t, e, 1, 4, 10, qty, l...)
			expectIDs(t, e, 4)
			if top := e.Top(); top.Last != 10 || top.Volume != min(qty, 3) {
				t.Errorf("behind an amend to %d Top is %+v", qty, top)
			}
			if qty <= 3 {
				expectNoAmend(t, e, 1, 4, 10, 1, noOrder)
			}
		}
	}
}

// A price more is needed where the order is not alone at its own; and one that is refused leaves the order in its place.
func TestAnAmendThatIsRefusedStays(t *testing.T) {
	e := made(t, sized(6, 1), limit(1, api.Buy, 10, 5), limit(2, api.Buy, 10, 5), limit(3, api.Sell, 20, 5))
	expectNoAmend(t, e, 1, 1, 11, 5, noPrice)
	expectNoAmend(t, e, 1, 1, 20, 6, noPrice)
	expectNoAmend(t, e, 1, 1, 9, 1, noPrice)
	expectOrders(t, e, order(1, 1, api.Buy, 10, 5), order(2, 2, api.Buy, 10, 5), order(3, 3, api.Sell, 20, 5))
	expectAmend(t, e, 3, 3, 21, 5, changed(api.Amended, 3, 3, api.Sell, 21, 5, 5), event(api.Rested, 3, 3, api.Sell, 21, 5))
	// What trades whole needs no price.
	expectAmend(t, e, 1, 1, 21, 4, changed(api.Amended, 1, 1, api.Buy, 21, 4, 5), traded(1, 3, 1, 3, api.Buy, 21, 4))
	expectAmend(t, e, 2, 2, 21, 4, changed(api.Amended, 2, 2, api.Buy, 21, 4, 5), traded(2, 3, 2, 3, api.Buy, 21, 1), event(api.Rested, 2, 2, api.Buy, 21, 3))
	expectTop(t, e, 21, 0, 21, 5)
}

func TestCancel(t *testing.T) {
	e := made(t, config(), append(two(), limit(3, api.Buy, 9, 4))...)
	for _, id := range []int{least, -1, 0, 4, 1<<32 + 1, greatest} {
		expectNoCancel(t, e, 1, id, noOrder)
		expectNoCancel(t, e, 9, id, noOrder)
	}
	for _, client := range []int{least, -1, 0, 1, 3, 4, 9, greatest} {
		expectNoCancel(t, e, client, 2, notOwn)
	}
	expectCancel(t, e, 2, 2, event(api.Withdrawn, 2, 2, api.Sell, 10, 5))
	expectNoCancel(t, e, 2, 2, noOrder)
	expectNoCancel(t, e, 1, 2, noOrder)
	expectOrders(t, e, order(3, 3, api.Buy, 9, 4), order(1, 1, api.Sell, 10, 5))
	// What is open of it now, not what was entered.
	expectEnter(t, e, limit(2, api.Buy, 10, 2), 4, event(api.Accepted, 4, 2, api.Buy, 10, 2), traded(4, 1, 2, 1, api.Buy, 10, 2))
	expectCancel(t, e, 1, 1, event(api.Withdrawn, 1, 1, api.Sell, 10, 3))
	expectCancel(t, e, 3, 3, event(api.Withdrawn, 3, 3, api.Buy, 9, 4))
	expectTop(t, e, 0, 0, 10, 2)
	expectIDs(t, e, 4)
	expectNoCancel(t, e, 2, 4, noOrder)
}

func TestTop(t *testing.T) {
	e := made(t, config())
	expectTop(t, e, 0, 0, 0, 0)
	e.Enter(limit(1, api.Buy, 8, 5))
	expectTop(t, e, 8, 0, 0, 0)
	e.Enter(limit(1, api.Buy, 9, 5))
	expectTop(t, e, 9, 0, 0, 0)
	e.Enter(limit(2, api.Sell, 12, 5))
	expectTop(t, e, 9, 12, 0, 0)
	e.Enter(limit(2, api.Sell, 11, 5))
	expectTop(t, e, 9, 11, 0, 0)
	// Last is the price of the last trade of several, and that of who rested.
	e.Enter(entry(3, api.Now, api.Buy, 20, 6))
	expectTop(t, e, 9, 12, 12, 6)
	e.Enter(entry(3, api.Now, api.Sell, 1, 6))
	expectTop(t, e, 8, 12, 8, 12)
	// Own orders that yield behind a trade do not count, nor does what only rests, nor a cancel.
	e.Enter(limit(1, api.Sell, 13, 1))
	e.Cancel(1, 1)
	expectTop(t, e, 0, 12, 8, 12)
	e.Enter(limit(1, api.Buy, 13, 9))
	expectTop(t, e, 13, 0, 12, 16)
	e = made(t, config(), limit(1, api.Sell, 12, 1))
	expectTop(t, e, 0, 12, 0, 0)
}

func TestOrders(t *testing.T) {
	e := made(t, sized(8, 4),
		limit(1, api.Sell, 12, 1), limit(2, api.Buy, 8, 2), limit(3, api.Sell, 11, 3), limit(1, api.Buy, 9, 4), limit(2, api.Sell, 11, 5), limit(3, api.Buy, 8, 6), limit(1, api.Sell, 12, 7), limit(2, api.Buy, 9, 8))
	expectOrders(t, e,
		order(4, 1, api.Buy, 9, 4), order(8, 2, api.Buy, 9, 8), order(2, 2, api.Buy, 8, 2), order(6, 3, api.Buy, 8, 6),
		order(3, 3, api.Sell, 11, 3), order(5, 2, api.Sell, 11, 5), order(1, 1, api.Sell, 12, 1), order(7, 1, api.Sell, 12, 7))
	e = made(t, config(), limit(1, api.Sell, 12, 1))
	expectOrders(t, e, order(1, 1, api.Sell, 12, 1))
	e = made(t, config(), limit(1, api.Buy, 12, 1))
	expectOrders(t, e, order(1, 1, api.Buy, 12, 1))
}

func TestOpen(t *testing.T) {
	e := made(t, sized(8, 4), limit(1, api.Sell, 12, 10), limit(3, api.Buy, 8, 2), limit(1, api.Buy, 9, 4), limit(1, api.Sell, 11, 5))
	expectOpen(t, e, 1, 3, 19)
	expectOpen(t, e, 2, 0, 0)
	expectOpen(t, e, 3, 1, 2)
	for _, client := range []int{least, -1, 0, 4, 8, 9, 1<<32 + 1, greatest} {
		expectOpen(t, e, client, 0, 0)
	}
	e.Enter(limit(2, api.Buy, 11, 7))
	expectOpen(t, e, 1, 2, 14)
	expectOpen(t, e, 2, 1, 2)
	e.Amend(1, 3, 9, 1)
	expectOpen(t, e, 1, 2, 11)
	e.Cancel(1, 1)
	expectOpen(t, e, 1, 1, 1)
}

// Lists that came out are their owner's: what is done to them, and behind their ends, is told to nobody (R2).
func TestListsChangedByTheirOwner(t *testing.T) {
	spoil := func(l []api.Event) {
		for i := range l[:cap(l)] {
			l[:cap(l)][i] = api.Event{What: 9, ID: -1}
		}
	}
	e := made(t, config(), two()...)
	want := e.Orders()
	first := e.Orders()
	for i := range first[:cap(first)] {
		first[:cap(first)][i] = api.Order{ID: -1}
	}
	second := e.Orders()
	if !slices.Equal(second, want) {
		t.Errorf("Orders is %v; want %v", second, want)
	}
	if expectOrders(t, e, want...); !slices.Equal(second, want) {
		t.Errorf("a list that came out has become %v", second)
	}
	_, l, _ := e.Enter(limit(3, api.Buy, 10, 2))
	spoil(l)
	expectOrders(t, e, order(1, 1, api.Sell, 10, 3), order(2, 2, api.Sell, 10, 5))
	_, l, _ = e.Enter(limit(3, api.Buy, 9, 2))
	kept := slices.Clone(l)
	m, _ := e.Amend(3, 4, 8, 3)
	n, _ := e.Amend(3, 4, 8, 2)
	o, _ := e.Cancel(3, 4)
	if !slices.Equal(l, kept) {
		t.Errorf("a list that came out has become %v; it was %v", l, kept)
	}
	spoil(m)
	if want := []api.Event{changed(api.Reduced, 4, 3, api.Buy, 8, 2, 3)}; !slices.Equal(n, want) {
		t.Errorf("a list that came out has become %v; it was %v", n, want)
	}
	spoil(n)
	if want := []api.Event{event(api.Withdrawn, 4, 3, api.Buy, 8, 2)}; !slices.Equal(o, want) {
		t.Errorf("a list that came out has become %v; it was %v", o, want)
	}
	spoil(o)
	expectOrders(t, e, order(1, 1, api.Sell, 10, 3), order(2, 2, api.Sell, 10, 5))
	expectTop(t, e, 0, 10, 10, 2)
}
