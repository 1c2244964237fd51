package snap_test

import (
	"testing"

	"tripwire/api"
	"tripwire/engine"
	"tripwire/snap"
)

// Clients 1 to 3 may enter; 0 and 4 look on.
const lookers = 5

// watch follows an engine by feeds alone: what each client sees, and saw when the span at hand began.
type watch struct {
	e       *engine.Engine
	sees    [lookers]api.Snap
	now     int64
	saw     [lookers]api.Snap
	then    api.Top
	between []api.Event
}

func watched(t *testing.T, c api.Config) *watch {
	t.Helper()
	e, no := engine.New(c)
	if no != api.OK {
		t.Fatalf("New(%+v) is %d", c, no)
	}
	return &watch{e: e}
}

// truth is the market's snapshot, with what a client has open.
func (w *watch) truth(client int) api.Snap {
	top := w.e.Top()
	_, lots := w.e.Open(client)
	return api.Snap{Bid: top.Bid, Ask: top.Ask, Last: top.Last, Volume: top.Volume, Now: w.now, Open: lots}
}

// do lets a call happen, and feeds what it did to all who look.
func (w *watch) do(t *testing.T, call func(e *engine.Engine) ([]api.Event, api.Errno)) api.Errno {
	t.Helper()
	before := w.e.Top()
	l, no := call(w.e)
	after := w.e.Top()
	w.between = append(w.between, l...)
	for client := range lookers {
		x := snap.Feeds(before, after, client, l...)
		if no != api.OK && len(x) > 0 {
			t.Fatalf("a call was refused (%d), and %v is fed to %d", no, x, client)
		}
		s, m, failed := snap.Fold(w.sees[client], x...)
		want := w.truth(client)
		if s != want || failed != api.OK || m != differ(w.sees[client], want) {
			t.Fatalf("behind %+v client %d sees %+v, %b, %d; want %+v (feeds: %v)", l, client, s, m, failed, want, x)
		}
		w.sees[client] = s
	}
	return no
}

// tick lets time go on.
func (w *watch) tick(t *testing.T, by int64) {
	t.Helper()
	w.now += by
	for client := range lookers {
		s, _, no := snap.Fold(w.sees[client], time(w.now))
		if s != w.truth(client) || no != api.OK {
			t.Fatalf("at %d client %d sees %+v, %d", w.now, client, s, no)
		}
		w.sees[client] = s
	}
}

// endSpan feeds all that happened since the last one at once, which comes to the same, and begins another.
func (w *watch) endSpan(t *testing.T) {
	t.Helper()
	for client := range lookers {
		x := append(snap.Feeds(w.then, w.e.Top(), client, w.between...), time(w.now))
		if s, m, no := snap.Fold(w.saw[client], x...); s != w.sees[client] || no != api.OK || m != differ(w.saw[client], s) {
			t.Fatalf("behind %+v client %d sees %+v, %b, %d; want %+v", w.between, client, s, m, no, w.sees[client])
		}
	}
	w.saw, w.then, w.between = w.sees, w.e.Top(), nil
}

func enter(client int, kind api.Kind, side api.Side, price, qty int64) func(*engine.Engine) ([]api.Event, api.Errno) {
	return func(e *engine.Engine) ([]api.Event, api.Errno) {
		_, l, no := e.Enter(api.Entry{Client: client, Kind: kind, Side: side, Price: price, Qty: qty})
		return l, no
	}
}

func amend(client, id int, price, qty int64) func(*engine.Engine) ([]api.Event, api.Errno) {
	return func(e *engine.Engine) ([]api.Event, api.Errno) { return e.Amend(client, id, price, qty) }
}

func cancel(client, id int) func(*engine.Engine) ([]api.Event, api.Errno) {
	return func(e *engine.Engine) ([]api.Event, api.Errno) { return e.Cancel(client, id) }
}

func small() api.Config {
	return api.Config{Rules: api.Rules{Clients: 3, Tick: 1, Lot: 1, Low: 1, High: 6, Most: 9}, Orders: 5, Levels: 3, Volume: 60, IDs: 80}
}

// The market of DOC.md's first example: one yields, one trades, the rest rests.
func TestASnapshotFollowsTheExample(t *testing.T) {
	w := watched(t, api.Config{Rules: api.Rules{Clients: 3, Tick: 1, Lot: 1, Low: 1, High: 100, Most: 100}, Orders: 4, Levels: 2, Volume: 1000, IDs: 1000})
	w.do(t, enter(1, api.Limit, api.Sell, 10, 5))
	w.do(t, enter(2, api.Limit, api.Sell, 10, 5))
	w.do(t, enter(1, api.Limit, api.Sell, 11, 5))
	w.do(t, enter(1, api.Limit, api.Buy, 10, 7))
	for client, want := range []api.Snap{
		{Bid: 10, Ask: 11, Last: 10, Volume: 5}, {Bid: 10, Ask: 11, Last: 10, Volume: 5, Open: 7},
		{Bid: 10, Ask: 11, Last: 10, Volume: 5}, {Bid: 10, Ask: 11, Last: 10, Volume: 5},
	} {
		if w.sees[client] != want {
			t.Errorf("client %d sees %+v; want %+v", client, w.sees[client], want)
		}
	}
	w.endSpan(t)
}

// All that is asked of one small market by all scripts of three calls behind a first order.
func TestSnapshotsFollowAllShortScripts(t *testing.T) {
	calls := []func(*engine.Engine) ([]api.Event, api.Errno){
		enter(1, api.Limit, api.Buy, 3, 2), enter(2, api.Limit, api.Buy, 2, 3), enter(2, api.Limit, api.Sell, 3, 3), enter(1, api.Limit, api.Sell, 2, 1),
		enter(2, api.Market, api.Sell, 0, 2), enter(1, api.Now, api.Sell, 2, 4), enter(3, api.All, api.Sell, 3, 2), enter(2, api.Post, api.Sell, 3, 1),
		enter(3, api.Limit, api.Sell, 4, 1), enter(4, api.Limit, api.Buy, 3, 1), enter(1, api.Limit, api.Buy, 0, 1),
		amend(1, 1, 3, 1), amend(1, 1, 3, 5), amend(2, 2, 3, 2), amend(2, 2, 2, 4), amend(2, 1, 2, 2), cancel(1, 1), cancel(2, 2), cancel(3, 9),
	}
	for _, x := range calls {
		for _, y := range calls {
			for _, z := range calls {
				w := watched(t, small())
				w.do(t, enter(1, api.Limit, api.Buy, 3, 4))
				w.do(t, x)
				w.do(t, y)
				w.tick(t, 1)
				w.do(t, z)
				w.endSpan(t)
			}
		}
	}
}

// anyCall is one that mostly can be, of a client about an order that he may have.
func anyCall(drawn func(int) int, e *engine.Engine) func(*engine.Engine) ([]api.Event, api.Errno) {
	client, price, qty := 1+drawn(3), int64(1+drawn(6)), int64(1+drawn(9))
	switch drawn(30) {
	case 0:
		client = drawn(2) * 4
	case 1:
		price = int64(drawn(2) * 7)
	case 2:
		qty = int64(drawn(2) * 10)
	}
	id, owner := drawn(12), client
	if l := e.Orders(); len(l) > 0 && drawn(8) > 0 {
		o := l[drawn(len(l))]
		id = o.ID
		if drawn(8) > 0 {
			owner = o.Client
		}
		if drawn(3) == 0 {
			price = o.Price
		}
	}
	switch drawn(10) {
	case 0, 1:
		return amend(owner, id, price, qty)
	case 2:
		return cancel(owner, id)
	}
	kind := api.Kind(1 + drawn(5))
	if kind == api.Market {
		price = 0
	}
	return enter(client, kind, api.Side(1+drawn(2)), price, qty)
}

func TestSnapshotsFollowDrawnScripts(t *testing.T) {
	drawn := draw(12)
	refused := map[api.Errno]int{}
	happened := map[api.What]int{}
	for range 150 {
		w, beside := watched(t, small()), watched(t, small())
		for range 200 {
			refused[w.do(t, anyCall(drawn, w.e))]++
			if drawn(4) == 0 {
				beside.do(t, anyCall(drawn, beside.e))
			}
			if drawn(6) == 0 {
				w.tick(t, int64(drawn(3)))
			}
			if drawn(10) == 0 {
				for _, x := range w.between {
					happened[x.What]++
				}
				w.endSpan(t)
			}
		}
		beside.endSpan(t)
	}
	for what := api.Accepted; what <= api.Reduced; what++ {
		if happened[what] < 50 {
			t.Errorf("event %d happened only %d times", what, happened[what])
		}
	}
	for _, no := range []api.Errno{api.OK, api.ErrRulesClient, api.ErrRulesQty, api.ErrRulesPrice, api.ErrBookFull, api.ErrBookPrice, api.ErrPlanCross, api.ErrPlanKill, api.ErrEngineOrder, api.ErrEngineOwner, api.ErrEngineSame, api.ErrEngineVolume, api.ErrEngineIDs} {
		if refused[no] < 10 {
			t.Errorf("error %d was told only %d times", no, refused[no])
		}
	}
}

// All that a book holds may be one client's, each order of the greatest quantity: that is just what a snapshot may tell.
func TestASnapshotFollowsUpToTheGreatestOpen(t *testing.T) {
	w := watched(t, api.Config{Rules: api.Rules{Clients: 3, Tick: 1, Lot: 1, Low: 1, High: api.MaxPrice, Most: api.MaxQty}, Orders: api.MaxOrders, Levels: api.MaxLevels, Volume: api.MaxVolume, IDs: api.MaxIDs})
	for range api.MaxOrders {
		w.do(t, enter(1, api.Limit, api.Sell, api.MaxPrice, api.MaxQty))
	}
	if w.sees[1].Open != api.MaxOpen || w.sees[1].Ask != api.MaxPrice {
		t.Errorf("client 1 sees %+v", w.sees[1])
	}
	if no := w.do(t, enter(1, api.Limit, api.Sell, api.MaxPrice, 1)); no != api.ErrBookFull {
		t.Errorf("one more is %d", no)
	}
	w.do(t, amend(1, 7, api.MaxPrice-1, api.MaxQty))
	w.do(t, amend(1, 8, api.MaxPrice, 1))
	w.do(t, enter(2, api.Market, api.Buy, 0, api.MaxQty))
	w.do(t, cancel(1, 9))
	w.do(t, enter(1, api.Now, api.Buy, api.MaxPrice, 1))
	if w.sees[1].Open != 0 || w.sees[1].Volume != api.MaxQty {
		t.Errorf("client 1 sees %+v", w.sees[1])
	}
	w.endSpan(t)
}
