package engine_test

import (
	"slices"
	"testing"

	"tripwire/api"
	"tripwire/book"
	"tripwire/engine"
)

// shelf is a book that may be, with orders that it has room for.
func shelf(t *testing.T, orders, levels int, l ...api.Order) *book.Book {
	t.Helper()
	b, no := book.New(orders, levels)
	if b == nil || no != api.OK {
		t.Fatalf("book.New(%d, %d) is %v, %d", orders, levels, b, no)
	}
	for _, o := range l {
		if no := b.Insert(o); no != api.OK {
			t.Fatalf("Insert(%v) is %d", o, no)
		}
	}
	return b
}

// three are orders of both sides; the first two stand at one price.
func three() []api.Order {
	return []api.Order{order(4, 1, api.Sell, 10, 5), order(2, 2, api.Sell, 10, 3), order(7, 3, api.Buy, 8, 4)}
}

func expectStanding(t *testing.T, b *book.Book, want ...api.Order) {
	t.Helper()
	if l := standing(b); !slices.Equal(l, want) {
		t.Errorf("the book has %v; want %v", l, want)
	}
}

func expectApply(t *testing.T, b *book.Book, l ...api.Event) {
	t.Helper()
	if no, at := engine.Apply(b, l...); no != api.OK || at != 0 {
		t.Errorf("Apply(%+v) is %d, %d; want OK, 0", l, no, at)
	}
}

// expectNoApply expects that an event can't be: alone, and behind others that can, which stay done.
func expectNoApply(t *testing.T, want api.Errno, x api.Event) {
	t.Helper()
	b := shelf(t, 4, 2, three()...)
	if no, at := engine.Apply(b, x); no != want || at != 0 {
		t.Errorf("Apply(%+v) is %d, %d; want %d, 0", x, no, at, want)
	}
	expectStanding(t, b, order(7, 3, api.Buy, 8, 4), order(4, 1, api.Sell, 10, 5), order(2, 2, api.Sell, 10, 3))
	ahead := []api.Event{event(api.Accepted, 1, 1, api.Buy, 1, 1), event(api.Rested, 9, 3, api.Buy, 7, 1), event(api.Withdrawn, 9, 3, api.Buy, 7, 1), event(api.Rested, 11, 1, api.Buy, 9, 2)}
	l := append(slices.Clone(ahead), x, event(api.Withdrawn, 7, 3, api.Buy, 8, 4))
	if no, at := engine.Apply(shelf(t, 5, 2, three()...), l...); no != want || at != 4 {
		t.Errorf("Apply(%+v) is %d, %d; want %d, 4", l, no, at, want)
	}
	b = shelf(t, 5, 2, three()...)
	engine.Apply(b, l...)
	expectStanding(t, b, order(11, 1, api.Buy, 9, 2), order(7, 3, api.Buy, 8, 4), order(4, 1, api.Sell, 10, 5), order(2, 2, api.Sell, 10, 3))
}

func TestApplyOfNothing(t *testing.T) {
	b := shelf(t, 4, 2, three()...)
	expectApply(t, b)
	expectApply(t, b, []api.Event{}...)
	expectApply(t, shelf(t, 0, 0))
	expectStanding(t, b, order(7, 3, api.Buy, 8, 4), order(4, 1, api.Sell, 10, 5), order(2, 2, api.Sell, 10, 3))
}

func TestApplyOfEach(t *testing.T) {
	b := shelf(t, 4, 2, three()...)
	expectApply(t, b, traded(9, 4, 3, 1, api.Buy, 10, 2))
	expectStanding(t, b, order(7, 3, api.Buy, 8, 4), order(4, 1, api.Sell, 10, 3), order(2, 2, api.Sell, 10, 3))
	expectApply(t, b, traded(9, 4, 3, 1, api.Buy, 10, 3))
	expectStanding(t, b, order(7, 3, api.Buy, 8, 4), order(2, 2, api.Sell, 10, 3))
	expectApply(t, b, event(api.Rested, 4, 1, api.Sell, 10, 6))
	expectStanding(t, b, order(7, 3, api.Buy, 8, 4), order(2, 2, api.Sell, 10, 3), order(4, 1, api.Sell, 10, 6))
	expectApply(t, b, changed(api.Reduced, 2, 2, api.Sell, 10, 1, 3))
	expectStanding(t, b, order(7, 3, api.Buy, 8, 4), order(2, 2, api.Sell, 10, 1), order(4, 1, api.Sell, 10, 6))
	expectApply(t, b, yielded(2, 9, 2, api.Sell, 10, 1))
	expectStanding(t, b, order(7, 3, api.Buy, 8, 4), order(4, 1, api.Sell, 10, 6))
	expectApply(t, b, changed(api.Amended, 7, 3, api.Buy, 9, 5, 4))
	expectStanding(t, b, order(4, 1, api.Sell, 10, 6))
	expectApply(t, b, event(api.Withdrawn, 4, 1, api.Sell, 10, 6))
	expectStanding(t, b)
	expectApply(t, b, event(api.Accepted, 4, 1, api.Sell, 10, 6), event(api.Dropped, 4, 1, api.Sell, 10, 6))
	expectStanding(t, b)
}

// What the chapter does not ask of an event is not looked at: clients, who the other one was, what an amended order will be.
func TestWhatIsNotLookedAt(t *testing.T) {
	b := shelf(t, 4, 2, three()...)
	expectApply(t, b, api.Event{What: api.Accepted, ID: -1, Other: -1, Client: -1, Holder: -1, Side: 9, Price: least, Qty: least, Was: least}, api.Event{What: api.Dropped, Price: greatest}, api.Event{What: api.Accepted}, api.Event{What: api.Dropped})
	expectStanding(t, b, order(7, 3, api.Buy, 8, 4), order(4, 1, api.Sell, 10, 5), order(2, 2, api.Sell, 10, 3))
	expectApply(t, b, api.Event{What: api.Traded, ID: -7, Other: 4, Client: 99, Holder: -1, Side: api.Buy, Price: 10, Qty: 1, Was: greatest})
	// The Side of a Traded one must only not be that of who rested.
	expectApply(t, b, api.Event{What: api.Traded, ID: 2, Other: 4, Side: 0, Price: 10, Qty: 1}, api.Event{What: api.Traded, Other: 4, Side: 200, Price: 10, Qty: 1})
	expectStanding(t, b, order(7, 3, api.Buy, 8, 4), order(4, 1, api.Sell, 10, 2), order(2, 2, api.Sell, 10, 3))
	expectApply(t, b, api.Event{What: api.Reduced, ID: 4, Other: 8, Client: 5, Holder: 6, Side: api.Sell, Price: 10, Qty: 1, Was: 2})
	expectApply(t, b, api.Event{What: api.Withdrawn, ID: 4, Other: -8, Client: 5, Holder: 6, Side: api.Sell, Price: 10, Qty: 1, Was: least})
	expectApply(t, b, api.Event{What: api.Yielded, ID: 2, Other: 2, Client: 0, Holder: 6, Side: api.Sell, Price: 10, Qty: 3, Was: 9})
	expectStanding(t, b, order(7, 3, api.Buy, 8, 4))
	expectApply(t, b, api.Event{What: api.Amended, ID: 7, Other: 7, Client: -3, Holder: 6, Side: api.Buy, Price: least, Qty: least, Was: 4})
	expectApply(t, b, api.Event{What: api.Rested, ID: 7, Other: 7, Client: 8, Holder: 6, Side: api.Buy, Price: 5, Qty: 6, Was: 7})
	expectStanding(t, b, order(7, 8, api.Buy, 5, 6))
}

func TestNoWhat(t *testing.T) {
	for _, what := range []api.What{0, 9, 10, 127, 128, 254, 255} {
		x := changed(what, 4, 1, api.Sell, 10, 5, 5)
		expectNoApply(t, noOrder, x)
		expectNoApply(t, noOrder, api.Event{What: what})
	}
}

func TestNoSuchOrder(t *testing.T) {
	for _, id := range []int{least, -4, 0, 1, 3, 1<<32 + 4, greatest} {
		expectNoApply(t, noOrder, traded(4, id, 1, 1, api.Buy, 10, 1))
		expectNoApply(t, noOrder, event(api.Withdrawn, id, 1, api.Sell, 10, 5))
		expectNoApply(t, noOrder, yielded(id, 4, 1, api.Sell, 10, 5))
		expectNoApply(t, noOrder, changed(api.Amended, id, 1, api.Sell, 10, 5, 5))
		expectNoApply(t, noOrder, changed(api.Reduced, id, 1, api.Sell, 10, 4, 5))
	}
}

func TestAnotherSide(t *testing.T) {
	expectNoApply(t, noOrder, traded(9, 4, 3, 1, api.Sell, 10, 1))
	expectNoApply(t, noOrder, traded(9, 7, 1, 3, api.Buy, 8, 1))
	for _, side := range []api.Side{0, api.Buy, 3, 255} {
		expectNoApply(t, noOrder, event(api.Withdrawn, 4, 1, side, 10, 5))
		expectNoApply(t, noOrder, yielded(4, 9, 1, side, 10, 5))
		expectNoApply(t, noOrder, changed(api.Amended, 4, 1, side, 10, 6, 5))
		expectNoApply(t, noOrder, changed(api.Reduced, 4, 1, side, 10, 4, 5))
	}
}

func TestAnotherPrice(t *testing.T) {
	for _, price := range []int64{least, -10, 0, 8, 9, 11, greatest} {
		expectNoApply(t, noOrder, traded(9, 4, 3, 1, api.Buy, price, 1))
		expectNoApply(t, noOrder, event(api.Withdrawn, 4, 1, api.Sell, price, 5))
		expectNoApply(t, noOrder, yielded(4, 9, 1, api.Sell, price, 5))
		expectNoApply(t, noOrder, changed(api.Reduced, 4, 1, api.Sell, price, 4, 5))
		b := shelf(t, 4, 2, three()...)
		expectApply(t, b, changed(api.Amended, 4, 1, api.Sell, price, 6, 5))
		expectStanding(t, b, order(7, 3, api.Buy, 8, 4), order(2, 2, api.Sell, 10, 3))
	}
}

func TestAnotherNumberOpen(t *testing.T) {
	for _, n := range []int64{least, -5, 0, 1, 4, 6, greatest} {
		expectNoApply(t, noOrder, event(api.Withdrawn, 4, 1, api.Sell, 10, n))
		expectNoApply(t, noOrder, yielded(4, 9, 1, api.Sell, 10, n))
		expectNoApply(t, noOrder, changed(api.Withdrawn, 4, 1, api.Sell, 10, n, 5))
		expectNoApply(t, noOrder, changed(api.Amended, 4, 1, api.Sell, 10, 5, n))
		expectNoApply(t, noOrder, changed(api.Reduced, 4, 1, api.Sell, 10, 3, n))
		expectNoApply(t, noOrder, changed(api.Reduced, 4, 1, api.Sell, 10, n-1, n))
	}
}

func TestATradeOfTooLittleOrTooMuch(t *testing.T) {
	for _, qty := range []int64{least, -1, 0, 6, 7, greatest} {
		expectNoApply(t, noOrder, traded(9, 4, 3, 1, api.Buy, 10, qty))
	}
	for qty := int64(1); qty <= 5; qty++ {
		b := shelf(t, 4, 2, three()...)
		expectApply(t, b, traded(9, 4, 3, 1, api.Buy, 10, qty))
		o, is := b.Get(4)
		if want := order(4, 1, api.Sell, 10, 5-qty); is != (qty < 5) || is && o != want {
			t.Errorf("behind a trade of %d the order is %v, %t", qty, o, is)
		}
	}
}

func TestReducedToTooLittleOrTooMuch(t *testing.T) {
	for _, qty := range []int64{least, -1, 0, 5, 6, greatest} {
		expectNoApply(t, noOrder, changed(api.Reduced, 4, 1, api.Sell, 10, qty, 5))
	}
	for qty := int64(1); qty <= 4; qty++ {
		b := shelf(t, 4, 2, three()...)
		expectApply(t, b, changed(api.Reduced, 4, 1, api.Sell, 10, qty, 5))
		expectStanding(t, b, order(7, 3, api.Buy, 8, 4), order(4, 1, api.Sell, 10, qty), order(2, 2, api.Sell, 10, 3))
	}
}

func TestRestedThatCannotBePutIn(t *testing.T) {
	for _, n := range []int64{least, -1, 0, api.MaxPrice + 1, greatest} {
		expectNoApply(t, wrong, event(api.Rested, 1, 1, api.Buy, n, 1))
		expectNoApply(t, wrong, event(api.Rested, 1, 1, api.Buy, 1, n))
		expectNoApply(t, wrong, event(api.Rested, 4, 1, api.Buy, 8, n))
	}
	for _, n := range []int{least, -1, 0} {
		expectNoApply(t, wrong, event(api.Rested, n, 1, api.Buy, 8, 1))
	}
	for _, n := range []int{least, -1, 0, 9, greatest} {
		expectNoApply(t, wrong, event(api.Rested, 1, n, api.Buy, 8, 1))
	}
	for _, side := range noSides {
		expectNoApply(t, wrong, event(api.Rested, 1, 1, side, 8, 1))
	}
	for _, id := range []int{2, 4, 7} {
		expectNoApply(t, twice, event(api.Rested, id, 1, api.Buy, 8, 1))
	}
	for _, c := range []struct {
		orders, levels int
		price          int64
		want           api.Errno
	}{{3, 2, 8, full}, {3, 1, 9, full}, {4, 1, 9, noPrice}} {
		b := shelf(t, c.orders, c.levels, three()...)
		if no, at := engine.Apply(b, event(api.Accepted, 1, 1, api.Buy, c.price, 1), event(api.Rested, 1, 1, api.Buy, c.price, 1)); no != c.want || at != 1 {
			t.Errorf("Apply of what has no room is %d, %d; want %d, 1", no, at, c.want)
		}
		// One that is there already is told ahead of the room.
		if no, at := engine.Apply(b, event(api.Rested, 2, 1, api.Buy, c.price, 1)); no != twice || at != 0 {
			t.Errorf("Apply of one that is there is %d, %d; want %d, 0", no, at, twice)
		}
		expectStanding(t, b, order(7, 3, api.Buy, 8, 4), order(4, 1, api.Sell, 10, 5), order(2, 2, api.Sell, 10, 3))
	}
}

// The first that can't be is told, whatever comes behind it; and none of what comes behind it is done.
func TestSeveralThatCannotBe(t *testing.T) {
	b := shelf(t, 4, 2, three()...)
	no, at := engine.Apply(b,
		traded(9, 4, 3, 1, api.Buy, 10, 5),
		event(api.Rested, 9, 3, api.Buy, 10, 2),
		event(api.Rested, 2, 3, api.Buy, 10, 2), // there already
		event(api.Withdrawn, 4, 1, api.Sell, 10, 5),
		event(api.Withdrawn, 2, 2, api.Sell, 10, 3))
	if no != twice || at != 2 {
		t.Errorf("Apply is %d, %d; want %d, 2", no, at, twice)
	}
	expectStanding(t, b, order(9, 3, api.Buy, 10, 2), order(7, 3, api.Buy, 8, 4), order(2, 2, api.Sell, 10, 3))
	// Everything wrong at once in one event.
	expectNoApply(t, noOrder, api.Event{What: api.Traded, Other: 99, Side: 9, Price: -1, Qty: -1})
	expectNoApply(t, noOrder, api.Event{What: api.Reduced, ID: 4, Side: 9, Price: -1, Qty: -1, Was: least})
}

// A list that is handed in is neither changed nor kept, and what lies behind its length is not read (R2).
func TestApplyDoesNotKeepItsList(t *testing.T) {
	b := shelf(t, 4, 2, three()...)
	l := []api.Event{traded(9, 4, 3, 1, api.Buy, 10, 2), event(api.Rested, 9, 3, api.Buy, 9, 1), {What: 77}}
	want := slices.Clone(l)
	expectApply(t, b, l[:2]...)
	if !slices.Equal(l, want) {
		t.Errorf("the list has become %v", l)
	}
	clear(l)
	expectStanding(t, b, order(9, 3, api.Buy, 9, 1), order(7, 3, api.Buy, 8, 4), order(4, 1, api.Sell, 10, 3), order(2, 2, api.Sell, 10, 3))
}
