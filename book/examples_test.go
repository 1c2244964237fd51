package book_test

import (
	"iter"
	"math"
	"slices"
	"testing"

	"tripwire/api"
	"tripwire/book"
)

const (
	wrong   = api.ErrArg
	full    = api.ErrBookFull
	noPrice = api.ErrBookPrice
	twice   = api.ErrBookTwice
	no      = api.ErrBookNone
	badQty  = api.ErrBookQty

	least, greatest = math.MinInt64, math.MaxInt64
)

// order is written as the chapter's examples write one.
func order(id, client int, side api.Side, price, qty int64) api.Order {
	return api.Order{ID: id, Client: client, Side: side, Price: price, Qty: qty}
}

// made is a book that may be, with orders that it has room for.
func made(t *testing.T, orders, levels int, l ...api.Order) *book.Book {
	t.Helper()
	b, e := book.New(orders, levels)
	if b == nil || e != api.OK {
		t.Fatalf("New(%d, %d) is %v, %d", orders, levels, b, e)
	}
	for _, o := range l {
		expectInsert(t, b, o, api.OK)
	}
	return b
}

// numbers are those of the orders that a walk tells.
func numbers(walk iter.Seq[api.Order]) []int {
	var l []int
	for o := range walk {
		l = append(l, o.ID)
	}
	return l
}

func expectInsert(t *testing.T, b *book.Book, o api.Order, want api.Errno) {
	t.Helper()
	if e := b.Insert(o); e != want {
		t.Errorf("Insert(%v) is %d; want %d", o, e, want)
	}
}

func expectRemove(t *testing.T, b *book.Book, id int, want api.Order, wantErr api.Errno) {
	t.Helper()
	if o, e := b.Remove(id); o != want || e != wantErr {
		t.Errorf("Remove(%d) is %v, %d; want %v, %d", id, o, e, want, wantErr)
	}
}

func expectReduce(t *testing.T, b *book.Book, id int, by int64, want api.Errno) {
	t.Helper()
	if e := b.Reduce(id, by); e != want {
		t.Errorf("Reduce(%d, %d) is %d; want %d", id, by, e, want)
	}
}

func expectGet(t *testing.T, b *book.Book, id int, want api.Order, wantIs bool) {
	t.Helper()
	if o, is := b.Get(id); o != want || is != wantIs {
		t.Errorf("Get(%d) is %v, %t; want %v, %t", id, o, is, want, wantIs)
	}
}

func expectBest(t *testing.T, b *book.Book, side api.Side, want int64) {
	t.Helper()
	if p := b.Best(side); p != want {
		t.Errorf("Best(%d) is %d; want %d", side, p, want)
	}
}

func expectDepth(t *testing.T, b *book.Book, side api.Side, most int, want ...api.Level) {
	t.Helper()
	if l := b.Depth(side, most); !slices.Equal(l, want) {
		t.Errorf("Depth(%d, %d) is %v; want %v", side, most, l, want)
	}
}

func expectOrders(t *testing.T, b *book.Book, side api.Side, want ...int) {
	t.Helper()
	if l := numbers(b.Orders(side)); !slices.Equal(l, want) {
		t.Errorf("Orders(%d) tells %v; want %v", side, l, want)
	}
}

func expectFacing(t *testing.T, b *book.Book, side api.Side, limit int64, want ...int) {
	t.Helper()
	if l := numbers(b.Facing(side, limit)); !slices.Equal(l, want) {
		t.Errorf("Facing(%d, %d) tells %v; want %v", side, limit, l, want)
	}
}

func expectFits(t *testing.T, b *book.Book, side api.Side, at int64, want api.Errno) {
	t.Helper()
	if e := b.Fits(side, at); e != want {
		t.Errorf("Fits(%d, %d) is %d; want %d", side, at, e, want)
	}
}

func expectOpen(t *testing.T, b *book.Book, client, wantCount int, wantLots int64) {
	t.Helper()
	if n, q := b.Open(client); n != wantCount || q != wantLots {
		t.Errorf("Open(%d) is %d, %d; want %d, %d", client, n, q, wantCount, wantLots)
	}
}

// expectCounts asks Len and Room, and Prices of both sides.
func expectCounts(t *testing.T, b *book.Book, count, room, buy, sell int) {
	t.Helper()
	if b.Len() != count || b.Room() != room {
		t.Errorf("Len is %d, Room is %d; want %d, %d", b.Len(), b.Room(), count, room)
	}
	if b.Prices(api.Buy) != buy || b.Prices(api.Sell) != sell {
		t.Errorf("Prices of Buy is %d, of Sell %d; want %d, %d", b.Prices(api.Buy), b.Prices(api.Sell), buy, sell)
	}
}

// TestExamples are the chapter's first and second one: the second goes on where the first one ends.
func TestExamples(t *testing.T) {
	b := made(t, 3, 2)
	expectInsert(t, b, order(1, 1, api.Sell, 10, 5), api.OK)
	expectInsert(t, b, order(2, 2, api.Sell, 11, 5), api.OK)
	expectInsert(t, b, order(3, 1, api.Sell, 10, 7), api.OK)
	expectOrders(t, b, api.Sell, 1, 3, 2)
	expectDepth(t, b, api.Sell, 1, api.Level{Price: 10, Qty: 12, Orders: 2})
	expectFits(t, b, api.Buy, 9, full)
	expectRemove(t, b, 2, order(2, 2, api.Sell, 11, 5), api.OK)
	expectFits(t, b, api.Sell, 12, api.OK)
	expectFacing(t, b, api.Buy, 10, 1, 3)
	expectFacing(t, b, api.Buy, 9)
	expectFacing(t, b, api.Buy, 0, 1, 3)

	expectReduce(t, b, 1, 5, badQty)
	expectReduce(t, b, 1, 2, api.OK)
	expectGet(t, b, 1, order(1, 1, api.Sell, 10, 3), true)
	expectOrders(t, b, api.Sell, 1, 3)
	expectOpen(t, b, 1, 2, 10)
}

// TestExampleOfOnePrice is the chapter's third one.
func TestExampleOfOnePrice(t *testing.T) {
	b := made(t, 5, 1)
	expectInsert(t, b, order(1, 1, api.Buy, 9, 1), api.OK)
	expectInsert(t, b, order(2, 1, api.Buy, 8, 1), noPrice)
	expectInsert(t, b, order(2, 1, api.Buy, 9, 1), api.OK)
	expectInsert(t, b, order(1, 1, api.Buy, 9, 1), twice)
	expectOrders(t, b, api.Buy, 1, 2)
	expectCounts(t, b, 2, 3, 0, 1)
}
