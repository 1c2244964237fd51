package plan_test

import (
	"math"
	"slices"
	"testing"

	"tripwire/api"
	"tripwire/book"
	"tripwire/plan"
)

const (
	wrong   = api.ErrArg
	full    = api.ErrBookFull
	noPrice = api.ErrBookPrice
	no      = api.ErrBookNone
	cross   = api.ErrPlanCross
	kill    = api.ErrPlanKill

	least, greatest = math.MinInt64, math.MaxInt64
)

// order is written as the chapter's examples write one.
func order(id, client int, side api.Side, price, qty int64) api.Order {
	return api.Order{ID: id, Client: client, Side: side, Price: price, Qty: qty}
}

func entry(client int, kind api.Kind, side api.Side, price, qty int64) api.Entry {
	return api.Entry{Client: client, Kind: kind, Side: side, Price: price, Qty: qty}
}

// trades is a hit of another client's order, yields one of an own one.
func trades(id int, price, qty int64) api.Hit {
	return api.Hit{ID: id, Price: price, Qty: qty}
}

func yields(id int, price, qty int64) api.Hit {
	return api.Hit{ID: id, Price: price, Qty: qty, Own: true}
}

// does is a plan: what is traded, rests, is gone, and whom it hits.
func does(traded, rests, gone int64, hits ...api.Hit) api.Plan {
	return api.Plan{Hits: hits, Traded: traded, Rests: rests, Gone: gone}
}

// made is a book that may be, with orders that it has room for.
func made(t *testing.T, orders, levels int, l ...api.Order) *book.Book {
	t.Helper()
	b, e := book.New(orders, levels)
	if b == nil || e != api.OK {
		t.Fatalf("New(%d, %d) is %v, %d", orders, levels, b, e)
	}
	for _, o := range l {
		if e := b.Insert(o); e != api.OK {
			t.Fatalf("Insert(%v) is %d", o, e)
		}
	}
	return b
}

// three are the orders of the chapter's examples.
func three(more ...api.Order) []api.Order {
	return append([]api.Order{order(1, 1, api.Sell, 10, 5), order(2, 2, api.Sell, 10, 5), order(3, 1, api.Sell, 11, 5)}, more...)
}

// plain is the book of the chapter's examples.
func plain(t *testing.T, more ...api.Order) *book.Book {
	t.Helper()
	return made(t, 4, 2, three(more...)...)
}

func same(a, b api.Plan) bool {
	return slices.Equal(a.Hits, b.Hits) && a.Traded == b.Traded && a.Rests == b.Rests && a.Gone == b.Gone
}

func expectOf(t *testing.T, b *book.Book, e api.Entry, want api.Plan) {
	t.Helper()
	if p, no := plan.Of(b, e); !same(p, want) || no != api.OK {
		t.Errorf("Of(%+v) is %+v, %d; want %+v", e, p, no, want)
	}
}

func expectRefused(t *testing.T, b *book.Book, e api.Entry, want api.Errno) {
	t.Helper()
	if p, no := plan.Of(b, e); !same(p, api.Plan{}) || no != want {
		t.Errorf("Of(%+v) is %+v, %d; want nothing, %d", e, p, no, want)
	}
}

func expectAmend(t *testing.T, b *book.Book, id int, price, qty int64, want api.Plan) {
	t.Helper()
	if p, no := plan.Amend(b, id, price, qty); !same(p, want) || no != api.OK {
		t.Errorf("Amend(%d, %d, %d) is %+v, %d; want %+v", id, price, qty, p, no, want)
	}
}

func expectNoAmend(t *testing.T, b *book.Book, id int, price, qty int64, want api.Errno) {
	t.Helper()
	if p, no := plan.Amend(b, id, price, qty); !same(p, api.Plan{}) || no != want {
		t.Errorf("Amend(%d, %d, %d) is %+v, %d; want nothing, %d", id, price, qty, p, no, want)
	}
}

func expectWorth(t *testing.T, p api.Plan, want int64, wantIs bool) {
	t.Helper()
	if n, is := plan.Worth(p); n != want || is != wantIs {
		t.Errorf("Worth(%d hits) is %d, %t; want %d, %t", len(p.Hits), n, is, want, wantIs)
	}
}

// TestExampleLimit is the chapter's first example.
func TestExampleLimit(t *testing.T) {
	b := plain(t)
	expectOf(t, b, entry(3, api.Limit, api.Buy, 10, 7), does(7, 0, 0, trades(1, 10, 5), trades(2, 10, 2)))
	expectOf(t, b, entry(3, api.Limit, api.Buy, 10, 12), does(10, 2, 0, trades(1, 10, 5), trades(2, 10, 5)))
	expectOf(t, b, entry(1, api.Limit, api.Buy, 11, 7), does(5, 2, 0, yields(1, 10, 5), trades(2, 10, 5), yields(3, 11, 5)))
}

// TestExampleKinds is the chapter's second example.
func TestExampleKinds(t *testing.T) {
	b := plain(t)
	expectOf(t, b, entry(3, api.Now, api.Buy, 10, 12), does(10, 0, 2, trades(1, 10, 5), trades(2, 10, 5)))
	expectOf(t, b, entry(3, api.Market, api.Buy, 0, 100), does(15, 0, 85, trades(1, 10, 5), trades(2, 10, 5), trades(3, 11, 5)))
	expectRefused(t, b, entry(3, api.All, api.Buy, 10, 12), kill)
	expectOf(t, b, entry(3, api.All, api.Buy, 10, 10), does(10, 0, 0, trades(1, 10, 5), trades(2, 10, 5)))
	expectOf(t, b, entry(1, api.All, api.Buy, 11, 5), does(5, 0, 0, yields(1, 10, 5), trades(2, 10, 5)))
	expectRefused(t, b, entry(3, api.Post, api.Buy, 10, 1), cross)
	expectOf(t, b, entry(3, api.Post, api.Buy, 9, 1), does(0, 1, 0))
}

// TestExampleRoom is the chapter's third example.
func TestExampleRoom(t *testing.T) {
	b := plain(t, order(4, 2, api.Buy, 8, 1))
	expectRefused(t, b, entry(3, api.Limit, api.Buy, 9, 1), full)
	expectOf(t, b, entry(3, api.Limit, api.Buy, 10, 6), does(6, 0, 0, trades(1, 10, 5), trades(2, 10, 1)))
	expectOf(t, b, entry(3, api.Limit, api.Buy, 10, 11), does(10, 1, 0, trades(1, 10, 5), trades(2, 10, 5)))
}

// TestExampleAmendAndWorth is the chapter's fourth example.
func TestExampleAmendAndWorth(t *testing.T) {
	b := plain(t)
	expectAmend(t, b, 3, 10, 2, does(0, 2, 0))
	expectNoAmend(t, b, 9, 10, 2, no)
	p, _ := plan.Of(b, entry(3, api.Limit, api.Buy, 10, 7))
	expectWorth(t, p, 70, true)
}

// TestExamplesOfTheWhole are the document's first two examples, as far as a plan goes.
func TestExamplesOfTheWhole(t *testing.T) {
	b := plain(t)
	expectOf(t, b, entry(1, api.Limit, api.Buy, 10, 7), does(5, 2, 0, yields(1, 10, 5), trades(2, 10, 5)))
	expectRefused(t, b, entry(3, api.All, api.Buy, 10, 12), kill)
	if b.Len() != 3 {
		t.Errorf("Len is %d; want 3", b.Len())
	}
}
