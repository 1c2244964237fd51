package engine_test

import (
	"fmt"
	"math"
	"slices"
	"testing"

	"tripwire/api"
	"tripwire/book"
	"tripwire/engine"
)

const (
	wrong    = api.ErrArg
	full     = api.ErrBookFull
	noPrice  = api.ErrBookPrice
	twice    = api.ErrBookTwice
	noRules  = api.ErrRulesConfig
	badKind  = api.ErrRulesKind
	badSide  = api.ErrRulesSide
	noClient = api.ErrRulesClient
	badQty   = api.ErrRulesQty
	badPrice = api.ErrRulesPrice
	cross    = api.ErrPlanCross
	kill     = api.ErrPlanKill
	noOrder  = api.ErrEngineOrder
	notOwn   = api.ErrEngineOwner
	unmoved  = api.ErrEngineSame
	tooMuch  = api.ErrEngineVolume
	noNumber = api.ErrEngineIDs

	least, greatest = math.MinInt64, math.MaxInt64
)

// config is what the chapter's examples are of; of volume and numbers there is enough.
func config() api.Config {
	return api.Config{Rules: api.Rules{Clients: 3, Tick: 1, Lot: 1, Low: 1, High: 100, Most: 100}, Orders: 4, Levels: 2, Volume: 1000, IDs: 1000}
}

// sized is the same with other sizes.
func sized(orders, levels int) api.Config {
	c := config()
	c.Orders, c.Levels = orders, levels
	return c
}

func entry(client int, kind api.Kind, side api.Side, price, qty int64) api.Entry {
	return api.Entry{Client: client, Kind: kind, Side: side, Price: price, Qty: qty}
}

func limit(client int, side api.Side, price, qty int64) api.Entry {
	return entry(client, api.Limit, side, price, qty)
}

func order(id, client int, side api.Side, price, qty int64) api.Order {
	return api.Order{ID: id, Client: client, Side: side, Price: price, Qty: qty}
}

// event is one of those that have nothing more to tell; the others stand below.
func event(what api.What, id, client int, side api.Side, price, qty int64) api.Event {
	return api.Event{What: what, ID: id, Client: client, Side: side, Price: price, Qty: qty}
}

func traded(id, other, client, holder int, side api.Side, price, qty int64) api.Event {
	return api.Event{What: api.Traded, ID: id, Other: other, Client: client, Holder: holder, Side: side, Price: price, Qty: qty}
}

func yielded(id, other, client int, side api.Side, price, qty int64) api.Event {
	return api.Event{What: api.Yielded, ID: id, Other: other, Client: client, Side: side, Price: price, Qty: qty}
}

func changed(what api.What, id, client int, side api.Side, price, qty, was int64) api.Event {
	return api.Event{What: what, ID: id, Client: client, Side: side, Price: price, Qty: qty, Was: was}
}

// made is an engine that may be, with entries that it takes.
func made(t *testing.T, c api.Config, l ...api.Entry) *engine.Engine {
	t.Helper()
	e, no := engine.New(c)
	if e == nil || no != api.OK {
		t.Fatalf("New(%+v) is %v, %d", c, e, no)
	}
	for i, x := range l {
		if id, _, no := e.Enter(x); id != i+1 || no != api.OK {
			t.Fatalf("Enter(%+v) is %d, %d", x, id, no)
		}
	}
	return e
}

// two are the first two entries of the chapter's examples.
func two() []api.Entry {
	return []api.Entry{limit(1, api.Sell, 10, 5), limit(2, api.Sell, 10, 5)}
}

// told is all that an engine answers to who asks, as a text.
func told(e *engine.Engine) string {
	s := fmt.Sprintln(e.Top(), e.IDs(), e.Orders())
	for client := range api.MaxClients + 2 {
		count, lots := e.Open(client)
		s += fmt.Sprintln(client, count, lots)
	}
	return s
}

func expectEnter(t *testing.T, e *engine.Engine, x api.Entry, wantID int, want ...api.Event) {
	t.Helper()
	if id, l, no := e.Enter(x); id != wantID || !slices.Equal(l, want) || no != api.OK {
		t.Errorf("Enter(%+v) is %d, %+v, %d; want %d, %+v", x, id, l, no, wantID, want)
	}
}

func expectAmend(t *testing.T, e *engine.Engine, client, id int, price, qty int64, want ...api.Event) {
	t.Helper()
	if l, no := e.Amend(client, id, price, qty); !slices.Equal(l, want) || no != api.OK {
		t.Errorf("Amend(%d, %d, %d, %d) is %+v, %d; want %+v", client, id, price, qty, l, no, want)
	}
}

func expectCancel(t *testing.T, e *engine.Engine, client, id int, want ...api.Event) {
	t.Helper()
	if l, no := e.Cancel(client, id); !slices.Equal(l, want) || no != api.OK {
		t.Errorf("Cancel(%d, %d) is %+v, %d; want %+v", client, id, l, no, want)
	}
}

// expectUnmoved expects that a call changes nothing that can be asked (T4).
func expectUnmoved(t *testing.T, e *engine.Engine, call func()) {
	t.Helper()
	was := told(e)
	call()
	if is := told(e); is != was {
		t.Errorf("a call that is refused makes of\n%s\n%s", was, is)
	}
}

func expectNoEnter(t *testing.T, e *engine.Engine, x api.Entry, want api.Errno) {
	t.Helper()
	expectUnmoved(t, e, func() {
		if id, l, no := e.Enter(x); id != 0 || len(l) != 0 || no != want {
			t.Errorf("Enter(%+v) is %d, %+v, %d; want nothing, %d", x, id, l, no, want)
		}
	})
}

func expectNoAmend(t *testing.T, e *engine.Engine, client, id int, price, qty int64, want api.Errno) {
	t.Helper()
	expectUnmoved(t, e, func() {
		if l, no := e.Amend(client, id, price, qty); len(l) != 0 || no != want {
			t.Errorf("Amend(%d, %d, %d, %d) is %+v, %d; want nothing, %d", client, id, price, qty, l, no, want)
		}
	})
}

func expectNoCancel(t *testing.T, e *engine.Engine, client, id int, want api.Errno) {
	t.Helper()
	expectUnmoved(t, e, func() {
		if l, no := e.Cancel(client, id); len(l) != 0 || no != want {
			t.Errorf("Cancel(%d, %d) is %+v, %d; want nothing, %d", client, id, l, no, want)
		}
	})
}

func expectTop(t *testing.T, e *engine.Engine, bid, ask, last, volume int64) {
	t.Helper()
	if top, want := e.Top(), (api.Top{Bid: bid, Ask: ask, Last: last, Volume: volume}); top != want {
		t.Errorf("Top is %+v; want %+v", top, want)
	}
}

func expectOrders(t *testing.T, e *engine.Engine, want ...api.Order) {
	t.Helper()
	if l := e.Orders(); !slices.Equal(l, want) {
		t.Errorf("Orders is %v; want %v", l, want)
	}
}

func expectOpen(t *testing.T, e *engine.Engine, client, wantCount int, wantLots int64) {
	t.Helper()
	if count, lots := e.Open(client); count != wantCount || lots != wantLots {
		t.Errorf("Open(%d) is %d, %d; want %d, %d", client, count, lots, wantCount, wantLots)
	}
}

func expectIDs(t *testing.T, e *engine.Engine, want int) {
	t.Helper()
	if n := e.IDs(); n != want {
		t.Errorf("IDs is %d; want %d", n, want)
	}
}

// standing are the orders of a book, as Orders tells an engine's.
func standing(b *book.Book) []api.Order {
	return slices.AppendSeq(slices.Collect(b.Orders(api.Buy)), b.Orders(api.Sell))
}

// TestExampleEntries is the chapter's first example.
func TestExampleEntries(t *testing.T) {
	e := made(t, config())
	expectEnter(t, e, limit(1, api.Sell, 10, 5), 1, event(api.Accepted, 1, 1, api.Sell, 10, 5), event(api.Rested, 1, 1, api.Sell, 10, 5))
	expectEnter(t, e, limit(2, api.Sell, 10, 5), 2, event(api.Accepted, 2, 2, api.Sell, 10, 5), event(api.Rested, 2, 2, api.Sell, 10, 5))
	expectEnter(t, e, limit(1, api.Buy, 10, 7), 3,
		event(api.Accepted, 3, 1, api.Buy, 10, 7), yielded(1, 3, 1, api.Sell, 10, 5), traded(3, 2, 1, 2, api.Buy, 10, 5), event(api.Rested, 3, 1, api.Buy, 10, 2))
	expectTop(t, e, 10, 0, 10, 5)
	expectOrders(t, e, order(3, 1, api.Buy, 10, 2))
}

// TestExampleAmends is the chapter's second example.
func TestExampleAmends(t *testing.T) {
	e := made(t, config(), append(two(), limit(1, api.Buy, 10, 7))...)
	expectAmend(t, e, 1, 3, 10, 1, changed(api.Reduced, 3, 1, api.Buy, 10, 1, 2))
	expectNoAmend(t, e, 1, 3, 10, 1, unmoved)
	expectNoAmend(t, e, 2, 3, 10, 2, notOwn)
	expectAmend(t, e, 1, 3, 9, 4, changed(api.Amended, 3, 1, api.Buy, 9, 4, 1), event(api.Rested, 3, 1, api.Buy, 9, 4))
	expectCancel(t, e, 1, 3, event(api.Withdrawn, 3, 1, api.Buy, 9, 4))
	expectNoCancel(t, e, 1, 3, noOrder)
	expectOrders(t, e)
}

// TestExampleVolume is the chapter's third example.
func TestExampleVolume(t *testing.T) {
	c := config()
	c.Volume = 4
	e := made(t, c, two()...)
	expectNoEnter(t, e, limit(1, api.Buy, 10, 7), tooMuch)
	expectOrders(t, e, order(1, 1, api.Sell, 10, 5), order(2, 2, api.Sell, 10, 5))
	expectIDs(t, e, 2)
}

// TestExamplesOfTheWhole are the document's first two examples.
func TestExamplesOfTheWhole(t *testing.T) {
	e := made(t, config(), append(two(), limit(1, api.Sell, 11, 5))...)
	expectNoEnter(t, e, entry(3, api.All, api.Buy, 10, 12), kill)
	expectIDs(t, e, 3)
	expectEnter(t, e, limit(1, api.Buy, 10, 7), 4,
		event(api.Accepted, 4, 1, api.Buy, 10, 7), yielded(1, 4, 1, api.Sell, 10, 5), traded(4, 2, 1, 2, api.Buy, 10, 5), event(api.Rested, 4, 1, api.Buy, 10, 2))
	expectOrders(t, e, order(4, 1, api.Buy, 10, 2), order(3, 1, api.Sell, 11, 5))
}
