package plan_test

import (
	"slices"
	"testing"

	"tripwire/api"
	"tripwire/book"
	"tripwire/plan"
)

// kinds and both are all that there are; noKinds and noSides some numbers that are none.
var (
	kinds   = []api.Kind{api.Limit, api.Market, api.Now, api.All, api.Post}
	noKinds = []api.Kind{0, 6, 7, 128, 254, 255}
	both    = []api.Side{api.Buy, api.Sell}
	noSides = []api.Side{0, 3, 4, 128, 254, 255}
)

// asked is the price of an entry of a kind: of a Market one there is none.
func asked(kind api.Kind, price int64) int64 {
	if kind == api.Market {
		return 0
	}
	return price
}

// other is the side that a side trades with.
func other(side api.Side) api.Side {
	if side == api.Buy {
		return api.Sell
	}
	return api.Buy
}

// expectLeft expects that an entry meets nobody: all of it is left, as its kind has it.
func expectLeft(t *testing.T, b *book.Book, e api.Entry) {
	t.Helper()
	switch e.Kind {
	case api.Limit, api.Post:
		expectOf(t, b, e, does(0, e.Qty, 0))
	case api.Market, api.Now:
		expectOf(t, b, e, does(0, 0, e.Qty))
	case api.All:
		expectRefused(t, b, e, kill)
	}
}

func TestEachKindOnBothSides(t *testing.T) {
	for _, side := range both {
		b := made(t, 9, 4, order(7, 2, other(side), 10, 5), order(8, 2, side, 10, 5))
		hit := trades(7, 10, 5)
		expectOf(t, b, entry(1, api.Limit, side, 10, 6), does(5, 1, 0, hit))
		expectOf(t, b, entry(1, api.Market, side, 0, 6), does(5, 0, 1, hit))
		expectOf(t, b, entry(1, api.Now, side, 10, 6), does(5, 0, 1, hit))
		expectRefused(t, b, entry(1, api.All, side, 10, 6), kill)
		expectOf(t, b, entry(1, api.All, side, 10, 5), does(5, 0, 0, hit))
		expectRefused(t, b, entry(1, api.Post, side, 10, 6), cross)
	}
}

// What is no kind, no side, or no client may not be, whether anybody faces it or not.
func TestNoKindNoSideNoClient(t *testing.T) {
	for _, b := range []*book.Book{made(t, 4, 2), plain(t)} {
		for _, kind := range noKinds {
			for _, side := range both {
				expectRefused(t, b, entry(1, kind, side, 10, 1), wrong)
				expectRefused(t, b, entry(1, kind, side, 0, 1), wrong)
			}
		}
		for _, kind := range kinds {
			for _, side := range noSides {
				expectRefused(t, b, entry(1, kind, side, asked(kind, 10), 1), wrong)
			}
			for _, client := range []int{least, -1, 0, 9, 10, 1 << 32, 1<<32 + 1, greatest} {
				expectRefused(t, b, entry(client, kind, api.Buy, asked(kind, 9), 1), wrong)
				expectRefused(t, b, entry(client, kind, api.Sell, asked(kind, 10), 1), wrong)
			}
		}
	}
}

func TestClientsThatMayBe(t *testing.T) {
	b := made(t, 4, 2)
	for client := 1; client <= 8; client++ {
		for _, kind := range kinds {
			for _, side := range both {
				expectLeft(t, b, entry(client, kind, side, asked(kind, 10), 3))
			}
		}
	}
	b = made(t, 4, 2, order(1, 8, api.Sell, 10, 5), order(2, 1, api.Sell, 10, 5))
	expectOf(t, b, entry(1, api.Now, api.Buy, 10, 6), does(5, 0, 1, trades(1, 10, 5), yields(2, 10, 5)))
	expectOf(t, b, entry(8, api.Now, api.Buy, 10, 6), does(5, 0, 1, yields(1, 10, 5), trades(2, 10, 5)))
}

func TestQtyAndPrice(t *testing.T) {
	b := made(t, 4, 2)
	for _, side := range both {
		for _, kind := range kinds {
			for _, n := range []int64{least, least + 1, -1, 0, api.MaxQty + 1, 1 << 32, 1<<32 + 1, greatest} {
				expectRefused(t, b, entry(1, kind, side, asked(kind, 10), n), wrong)
				if n != 0 || kind != api.Market {
					expectRefused(t, b, entry(1, kind, side, n, 1), wrong)
				}
			}
			for _, n := range []int64{1, 2, api.MaxQty - 1, api.MaxQty} {
				expectLeft(t, b, entry(1, kind, side, asked(kind, 10), n))
				expectLeft(t, b, entry(1, kind, side, asked(kind, n), 1))
			}
		}
	}
}

func TestAMarketEntryHasNoPrice(t *testing.T) {
	b := made(t, 4, 2, order(1, 2, api.Sell, 1, 5), order(2, 2, api.Sell, api.MaxPrice, 5), order(3, 2, api.Buy, api.MaxPrice, 5), order(4, 2, api.Buy, 1, 5))
	expectOf(t, b, entry(1, api.Market, api.Buy, 0, 11), does(10, 0, 1, trades(1, 1, 5), trades(2, api.MaxPrice, 5)))
	expectOf(t, b, entry(1, api.Market, api.Sell, 0, 11), does(10, 0, 1, trades(3, api.MaxPrice, 5), trades(4, 1, 5)))
	for _, side := range both {
		for _, n := range []int64{least, -1, 1, 10, api.MaxPrice, api.MaxPrice + 1, greatest} {
			expectRefused(t, b, entry(1, api.Market, side, n, 1), wrong)
		}
	}
}

// A price is as good for who buys, if it is not above; for who sells, if it is not below.
func TestWhoIsFaced(t *testing.T) {
	b := made(t, 9, 4, order(1, 2, api.Sell, 11, 1), order(2, 2, api.Sell, 10, 1), order(3, 2, api.Buy, 8, 1), order(4, 2, api.Buy, 7, 1), order(5, 3, api.Sell, 10, 1), order(6, 3, api.Buy, 8, 1))
	sell := []api.Hit{trades(2, 10, 1), trades(5, 10, 1), trades(1, 11, 1)}
	buy := []api.Hit{trades(3, 8, 1), trades(6, 8, 1), trades(4, 7, 1)}
	for price, met := range map[int64]int{1: 0, 9: 0, 10: 2, 11: 3, 12: 3, api.MaxPrice: 3} {
		expectOf(t, b, entry(1, api.Now, api.Buy, price, 9), does(int64(met), 0, 9-int64(met), sell[:met]...))
		expectOf(t, b, entry(1, api.Limit, api.Buy, price, 9), does(int64(met), 9-int64(met), 0, sell[:met]...))
	}
	for price, met := range map[int64]int{api.MaxPrice: 0, 9: 0, 8: 2, 7: 3, 6: 3, 1: 3} {
		expectOf(t, b, entry(1, api.Now, api.Sell, price, 9), does(int64(met), 0, 9-int64(met), buy[:met]...))
		expectOf(t, b, entry(1, api.Limit, api.Sell, price, 9), does(int64(met), 9-int64(met), 0, buy[:met]...))
	}
	for _, kind := range []api.Kind{api.Limit, api.Now, api.All, api.Post} {
		expectLeft(t, b, entry(1, kind, api.Buy, 9, 1))
		expectLeft(t, b, entry(1, kind, api.Sell, 9, 1))
	}
}

// Of ten lots by two orders: all of it, one lot less, one lot more; and the same of the first order alone.
func TestJustAsMuch(t *testing.T) {
	b := plain(t)
	whole := []api.Hit{trades(1, 10, 5), trades(2, 10, 5)}
	for _, kind := range []api.Kind{api.Limit, api.Now, api.All} {
		expectOf(t, b, entry(3, kind, api.Buy, 10, 10), does(10, 0, 0, whole...))
		expectOf(t, b, entry(3, kind, api.Buy, 10, 9), does(9, 0, 0, trades(1, 10, 5), trades(2, 10, 4)))
		expectOf(t, b, entry(3, kind, api.Buy, 10, 6), does(6, 0, 0, trades(1, 10, 5), trades(2, 10, 1)))
		expectOf(t, b, entry(3, kind, api.Buy, 10, 5), does(5, 0, 0, trades(1, 10, 5)))
		expectOf(t, b, entry(3, kind, api.Buy, 10, 4), does(4, 0, 0, trades(1, 10, 4)))
		expectOf(t, b, entry(3, kind, api.Buy, 10, 1), does(1, 0, 0, trades(1, 10, 1)))
	}
	expectOf(t, b, entry(3, api.Limit, api.Buy, 10, 11), does(10, 1, 0, whole...))
	expectOf(t, b, entry(3, api.Now, api.Buy, 10, 11), does(10, 0, 1, whole...))
	expectRefused(t, b, entry(3, api.All, api.Buy, 10, 11), kill)
	for qty, hits := range map[int64][]api.Hit{5: {trades(1, 10, 5)}, 14: {trades(1, 10, 5), trades(2, 10, 5), trades(3, 11, 4)}, 15: {trades(1, 10, 5), trades(2, 10, 5), trades(3, 11, 5)}} {
		expectOf(t, b, entry(3, api.Market, api.Buy, 0, qty), does(qty, 0, 0, hits...))
	}
	expectOf(t, b, entry(3, api.Market, api.Buy, 0, 16), does(15, 0, 1, trades(1, 10, 5), trades(2, 10, 5), trades(3, 11, 5)))
}

func TestTheGreatestQuantities(t *testing.T) {
	b := made(t, 4, 2, order(1, 2, api.Sell, 10, api.MaxQty), order(2, 2, api.Sell, 10, api.MaxQty-1), order(3, 1, api.Sell, 10, api.MaxQty))
	expectOf(t, b, entry(3, api.Limit, api.Buy, 10, api.MaxQty), does(api.MaxQty, 0, 0, trades(1, 10, api.MaxQty)))
	expectOf(t, b, entry(2, api.All, api.Buy, api.MaxPrice, api.MaxQty), does(api.MaxQty, 0, 0, yields(1, 10, api.MaxQty), yields(2, 10, api.MaxQty-1), trades(3, 10, api.MaxQty)))
	b = made(t, 4, 2, order(2, 2, api.Sell, 10, api.MaxQty-1), order(3, 1, api.Sell, 10, api.MaxQty))
	expectRefused(t, b, entry(1, api.All, api.Buy, 10, api.MaxQty), kill)
	expectOf(t, b, entry(1, api.Limit, api.Buy, 10, api.MaxQty), does(api.MaxQty-1, 1, 0, trades(2, 10, api.MaxQty-1), yields(3, 10, api.MaxQty)))
}

// Own orders yield whole, however much is left of the entry, and nothing of it is spent on them.
func TestOwnOrdersAlone(t *testing.T) {
	for _, side := range both {
		b := made(t, 9, 4, order(1, 3, other(side), 10, 5), order(2, 3, other(side), 10, 7))
		all := []api.Hit{yields(1, 10, 5), yields(2, 10, 7)}
		for _, qty := range []int64{1, 5, 12, 13, api.MaxQty} {
			expectOf(t, b, entry(3, api.Limit, side, 10, qty), does(0, qty, 0, all...))
			expectOf(t, b, entry(3, api.Now, side, 10, qty), does(0, 0, qty, all...))
			expectOf(t, b, entry(3, api.Market, side, 0, qty), does(0, 0, qty, all...))
			expectRefused(t, b, entry(3, api.All, side, 10, qty), kill)
			expectRefused(t, b, entry(3, api.Post, side, 10, qty), cross)
		}
	}
}

func TestOwnOrdersAheadAmongBehind(t *testing.T) {
	own := func(places ...int) *book.Book {
		l := []api.Order{order(1, 2, api.Sell, 10, 2), order(2, 2, api.Sell, 10, 2), order(3, 2, api.Sell, 11, 2)}
		for _, i := range places {
			l[i].Client = 1
		}
		return made(t, 3, 2, l...)
	}
	expectOf(t, own(0), entry(1, api.Now, api.Buy, 11, 3), does(3, 0, 0, yields(1, 10, 2), trades(2, 10, 2), trades(3, 11, 1)))
	expectOf(t, own(0, 1), entry(1, api.Now, api.Buy, 11, 3), does(2, 0, 1, yields(1, 10, 2), yields(2, 10, 2), trades(3, 11, 2)))
	expectOf(t, own(1), entry(1, api.Now, api.Buy, 11, 3), does(3, 0, 0, trades(1, 10, 2), yields(2, 10, 2), trades(3, 11, 1)))
	expectOf(t, own(1), entry(1, api.Now, api.Buy, 11, 2), does(2, 0, 0, trades(1, 10, 2)))
	expectOf(t, own(2), entry(1, api.Now, api.Buy, 11, 3), does(3, 0, 0, trades(1, 10, 2), trades(2, 10, 1)))
	// Behind the last one that trades nobody is met; with one lot more one is.
	expectOf(t, own(2), entry(1, api.Now, api.Buy, 11, 4), does(4, 0, 0, trades(1, 10, 2), trades(2, 10, 2)))
	expectOf(t, own(2), entry(1, api.Now, api.Buy, 11, 5), does(4, 0, 1, trades(1, 10, 2), trades(2, 10, 2), yields(3, 11, 2)))
	expectOf(t, own(2), entry(1, api.Now, api.Buy, 10, 5), does(4, 0, 1, trades(1, 10, 2), trades(2, 10, 2)))
}

func TestPost(t *testing.T) {
	for _, side := range both {
		for _, client := range []int{1, 2} {
			b := made(t, 9, 4, order(1, 2, other(side), 10, 5))
			better := int64(9)
			if side == api.Sell {
				better = 11
			}
			expectRefused(t, b, entry(client, api.Post, side, 10, 1), cross)
			expectRefused(t, b, entry(client, api.Post, side, 10, api.MaxQty), cross)
			expectRefused(t, b, entry(client, api.Post, side, 20-better, 1), cross)
			expectOf(t, b, entry(client, api.Post, side, better, 4), does(0, 4, 0))
		}
	}
}

// Own orders between do not count for what an All entry needs.
func TestAll(t *testing.T) {
	l := []api.Order{order(1, 1, api.Sell, 9, 50), order(2, 2, api.Sell, 10, 3), order(3, 1, api.Sell, 10, 50), order(4, 4, api.Sell, 11, 4), order(5, 1, api.Sell, 11, 50), order(6, 2, api.Sell, 12, 5)}
	b := made(t, 9, 4, l...)
	expectOf(t, b, entry(1, api.All, api.Buy, 11, 7), does(7, 0, 0, yields(1, 9, 50), trades(2, 10, 3), yields(3, 10, 50), trades(4, 11, 4)))
	expectRefused(t, b, entry(1, api.All, api.Buy, 11, 8), kill)
	expectOf(t, b, entry(1, api.All, api.Buy, 10, 3), does(3, 0, 0, yields(1, 9, 50), trades(2, 10, 3)))
	expectRefused(t, b, entry(1, api.All, api.Buy, 10, 4), kill)
	expectRefused(t, b, entry(1, api.All, api.Buy, 9, 1), kill)
	expectOf(t, b, entry(1, api.All, api.Buy, 12, 12), does(12, 0, 0, yields(1, 9, 50), trades(2, 10, 3), yields(3, 10, 50), trades(4, 11, 4), yields(5, 11, 50), trades(6, 12, 5)))
	expectRefused(t, b, entry(1, api.All, api.Buy, 12, 13), kill)
	expectRefused(t, b, entry(1, api.All, api.Buy, api.MaxPrice, api.MaxQty), kill)
	expectOf(t, b, entry(3, api.All, api.Buy, 9, 50), does(50, 0, 0, trades(1, 9, 50)))
}

func TestAFullBook(t *testing.T) {
	b := made(t, 4, 4, order(1, 1, api.Sell, 10, 5), order(2, 2, api.Sell, 11, 5), order(3, 1, api.Buy, 8, 5), order(4, 2, api.Buy, 7, 5))
	for _, kind := range []api.Kind{api.Limit, api.Post} { // nobody goes, at a price that is there and at one that is not
		for _, price := range []int64{7, 8, 9, 1} {
			expectRefused(t, b, entry(3, kind, api.Buy, price, 1), full)
		}
		for _, price := range []int64{10, 11, 9, 12} {
			expectRefused(t, b, entry(3, kind, api.Sell, price, 1), full)
		}
	}
	expectOf(t, b, entry(1, api.Limit, api.Buy, 10, 1), does(0, 1, 0, yields(1, 10, 5)))                 // one yields
	expectOf(t, b, entry(3, api.Limit, api.Buy, 10, 6), does(5, 1, 0, trades(1, 10, 5)))                 // one trades whole
	expectOf(t, b, entry(3, api.Limit, api.Buy, 10, 4), does(4, 0, 0, trades(1, 10, 4)))                 // one trades in part
	expectOf(t, b, entry(3, api.Limit, api.Buy, 10, 5), does(5, 0, 0, trades(1, 10, 5)))                 // nothing rests
	expectOf(t, b, entry(1, api.Limit, api.Sell, 7, 9), does(5, 4, 0, yields(3, 8, 5), trades(4, 7, 5))) // one yields, one trades whole
	expectOf(t, b, entry(3, api.Now, api.Buy, 9, 6), does(0, 0, 6))
	expectOf(t, b, entry(3, api.Now, api.Buy, 10, 6), does(5, 0, 1, trades(1, 10, 5)))
	expectOf(t, b, entry(3, api.Market, api.Buy, 0, 11), does(10, 0, 1, trades(1, 10, 5), trades(2, 11, 5)))
	expectRefused(t, b, entry(3, api.All, api.Buy, 9, 1), kill)
	expectOf(t, b, entry(3, api.All, api.Buy, 10, 5), does(5, 0, 0, trades(1, 10, 5)))
	expectOf(t, made(t, 5, 4, order(1, 1, api.Sell, 10, 5)), entry(3, api.Limit, api.Buy, 9, 1), does(0, 1, 0))
}

func TestASideWithoutRoomForAPrice(t *testing.T) {
	b := made(t, 9, 2, order(1, 1, api.Buy, 8, 5), order(2, 2, api.Buy, 7, 5), order(3, 2, api.Sell, 10, 5))
	for _, kind := range []api.Kind{api.Limit, api.Post} {
		for _, price := range []int64{1, 6, 9} {
			expectRefused(t, b, entry(3, kind, api.Buy, price, 1), noPrice)
		}
		for _, price := range []int64{7, 8} {
			expectOf(t, b, entry(3, kind, api.Buy, price, 1), does(0, 1, 0))
		}
		expectOf(t, b, entry(3, kind, api.Sell, 12, 1), does(0, 1, 0)) // the other side has room
	}
	expectRefused(t, b, entry(3, api.Limit, api.Buy, 10, 6), noPrice) // what it trades with is of the other side: no price of its own goes
	expectRefused(t, b, entry(2, api.Limit, api.Buy, 10, 6), noPrice)
	expectOf(t, b, entry(3, api.Limit, api.Buy, 10, 5), does(5, 0, 0, trades(3, 10, 5)))
	expectOf(t, b, entry(3, api.Limit, api.Buy, 11, 4), does(4, 0, 0, trades(3, 10, 4)))
	expectOf(t, b, entry(3, api.Now, api.Buy, 9, 1), does(0, 0, 1))
	expectOf(t, b, entry(3, api.Now, api.Buy, 10, 6), does(5, 0, 1, trades(3, 10, 5)))
	expectOf(t, b, entry(3, api.Market, api.Buy, 0, 6), does(5, 0, 1, trades(3, 10, 5)))
	expectOf(t, b, entry(3, api.All, api.Buy, 10, 5), does(5, 0, 0, trades(3, 10, 5)))
	// A price that meets orders and is there on its own side, too: a book may be so.
	b = made(t, 9, 1, order(1, 1, api.Buy, 10, 5), order(2, 2, api.Sell, 10, 5))
	expectOf(t, b, entry(3, api.Limit, api.Buy, 10, 6), does(5, 1, 0, trades(2, 10, 5)))
	expectRefused(t, b, entry(3, api.Limit, api.Buy, 11, 6), noPrice)
}

// A side with all the prices that there may be: the last one of them is there, and can go, as the first one.
func TestTheGreatestSide(t *testing.T) {
	for _, side := range both {
		b, _ := book.New(api.MaxOrders, api.MaxLevels)
		for i := range api.MaxLevels {
			b.Insert(order(i+1, 1, side, int64(i)+2, 1))
		}
		for _, price := range []int64{1, api.MaxLevels + 2} {
			expectRefused(t, b, entry(2, api.Limit, side, price, 1), noPrice)
			for _, id := range []int{1, 2, 64, api.MaxLevels - 1, api.MaxLevels} {
				expectAmend(t, b, id, price, 1, does(0, 1, 0))
			}
		}
		for _, price := range []int64{2, 3, 65, api.MaxLevels, api.MaxLevels + 1} {
			expectOf(t, b, entry(2, api.Limit, side, price, 1), does(0, 1, 0))
			b.Insert(order(200, 1, side, price, 1))
			expectNoAmend(t, b, 200, 1, 1, noPrice)
			expectAmend(t, b, 200, 3, 1, does(0, 1, 0))
			b.Remove(200)
		}
	}
}

// The book is full, and the side has no room for a price: when some are gone, the price alone is missing.
func TestNoRoomForEither(t *testing.T) {
	b := made(t, 2, 1, order(1, 1, api.Buy, 8, 5), order(2, 2, api.Sell, 10, 5))
	expectRefused(t, b, entry(3, api.Limit, api.Buy, 9, 1), full)
	expectRefused(t, b, entry(3, api.Limit, api.Buy, 8, 1), full)
	expectRefused(t, b, entry(3, api.Post, api.Buy, 9, 1), full)
	expectRefused(t, b, entry(3, api.Limit, api.Buy, 10, 6), noPrice)
	expectRefused(t, b, entry(2, api.Limit, api.Buy, 10, 1), noPrice)
	expectOf(t, b, entry(3, api.Limit, api.Buy, 10, 5), does(5, 0, 0, trades(2, 10, 5)))
	expectRefused(t, b, entry(3, api.Limit, api.Sell, 8, 6), noPrice)
	expectRefused(t, b, entry(3, api.Limit, api.Sell, 10, 1), full)
}

func TestAnEmptyBook(t *testing.T) {
	for _, kind := range kinds {
		for _, side := range both {
			e := entry(3, kind, side, asked(kind, 10), 7)
			expectLeft(t, made(t, 1, 1), e)
			for levels := range 2 {
				if b := made(t, 0, levels); kind == api.Limit || kind == api.Post {
					expectRefused(t, b, e, full)
				} else {
					expectLeft(t, b, e)
				}
			}
			if b := made(t, 1, 0); kind == api.Limit || kind == api.Post {
				expectRefused(t, b, e, noPrice)
			} else {
				expectLeft(t, b, e)
			}
		}
	}
	expectNoAmend(t, made(t, 0, 0), 1, 10, 1, no)
	expectNoAmend(t, made(t, 1, 1), 1, 10, 1, no)
}

func TestAmendOfNoOrder(t *testing.T) {
	b := plain(t)
	for _, id := range []int{least, -1, 0, 4, 9, 1<<32 + 1, greatest} {
		expectNoAmend(t, b, id, 10, 1, no)
		expectNoAmend(t, b, id, 0, 1, no)
		expectNoAmend(t, b, id, 10, 0, no)
		expectNoAmend(t, b, id, -1, api.MaxQty+1, no)
	}
}

func TestAmendPriceAndQty(t *testing.T) {
	b := plain(t)
	for _, n := range []int64{least, least + 1, -1, 0, api.MaxQty + 1, 1 << 32, 1<<32 + 1, greatest} {
		for id := 1; id <= 3; id++ {
			expectNoAmend(t, b, id, n, 1, wrong)
			expectNoAmend(t, b, id, 10, n, wrong)
			expectNoAmend(t, b, id, n, n, wrong)
		}
	}
	for _, n := range []int64{1, 2, api.MaxQty - 1, api.MaxQty} {
		expectAmend(t, b, 3, n, 1, does(0, 1, 0))
		expectAmend(t, b, 1, 10, n, does(0, n, 0))
		expectAmend(t, b, 3, n, n, does(0, n, 0))
	}
}

// To its own price: with less, the same and more open, the only one of its price, and one of several.
func TestAmendToItsOwnPrice(t *testing.T) {
	for _, b := range []*book.Book{plain(t), made(t, 3, 2, three()...)} {
		for id, price := range map[int]int64{1: 10, 2: 10, 3: 11} {
			for _, qty := range []int64{1, 4, 5, 6, api.MaxQty} {
				expectAmend(t, b, id, price, qty, does(0, qty, 0))
			}
		}
	}
}

// It meets the orders of the other side, as a Limit entry of its client and side: never itself, nor those of its own side.
func TestAmendToAPriceThatMeetsOrders(t *testing.T) {
	b := made(t, 6, 4, order(1, 1, api.Sell, 10, 5), order(2, 2, api.Sell, 10, 5), order(3, 1, api.Sell, 11, 5), order(4, 2, api.Buy, 8, 3), order(5, 1, api.Buy, 8, 4), order(6, 3, api.Buy, 7, 6))
	expectAmend(t, b, 1, 9, 5, does(0, 5, 0))
	expectAmend(t, b, 1, 8, 2, does(2, 0, 0, trades(4, 8, 2)))
	expectAmend(t, b, 1, 8, 3, does(3, 0, 0, trades(4, 8, 3)))
	expectAmend(t, b, 1, 8, 4, does(3, 1, 0, trades(4, 8, 3), yields(5, 8, 4)))
	expectAmend(t, b, 3, 7, 9, does(9, 0, 0, trades(4, 8, 3), yields(5, 8, 4), trades(6, 7, 6)))
	expectAmend(t, b, 3, 1, 10, does(9, 1, 0, trades(4, 8, 3), yields(5, 8, 4), trades(6, 7, 6)))
	expectAmend(t, b, 2, 8, 5, does(4, 1, 0, yields(4, 8, 3), trades(5, 8, 4)))
	expectAmend(t, b, 5, 10, 6, does(5, 1, 0, yields(1, 10, 5), trades(2, 10, 5)))
	expectAmend(t, b, 6, 11, 15, does(15, 0, 0, trades(1, 10, 5), trades(2, 10, 5), trades(3, 11, 5)))
	expectAmend(t, b, 6, 11, 16, does(15, 1, 0, trades(1, 10, 5), trades(2, 10, 5), trades(3, 11, 5)))
}

// In a full book there is room for an order that was taken out, whether it meets any other or not.
func TestAmendInAFullBook(t *testing.T) {
	b := made(t, 3, 3, order(1, 1, api.Sell, 10, 5), order(2, 2, api.Sell, 11, 5), order(3, 1, api.Buy, 8, 5))
	for id := 1; id <= 2; id++ {
		for _, price := range []int64{9, 10, 11, 12} {
			expectAmend(t, b, id, price, 9, does(0, 9, 0))
		}
	}
	expectAmend(t, b, 2, 8, 9, does(5, 4, 0, trades(3, 8, 5)))
	expectAmend(t, b, 1, 8, 9, does(0, 9, 0, yields(3, 8, 5)))
	expectAmend(t, b, 3, 9, 1, does(0, 1, 0))
	expectAmend(t, made(t, 1, 1, order(1, 1, api.Sell, 10, 5)), 1, 11, 6, does(0, 6, 0))
}

// The only order of its price leaves room for a price behind; one of several does not.
func TestAmendOnASideWithoutRoomForAPrice(t *testing.T) {
	for _, orders := range []int{4, 9} { // a full book, and one with room for an order
		b := made(t, orders, 2, three(order(4, 3, api.Buy, 9, 4))...)
		for id := 1; id <= 2; id++ {
			expectNoAmend(t, b, id, 12, 1, noPrice)
			expectNoAmend(t, b, id, api.MaxPrice, api.MaxQty, noPrice)
			expectAmend(t, b, id, 10, 6, does(0, 6, 0))
			expectAmend(t, b, id, 11, 6, does(0, 6, 0))
			expectNoAmend(t, b, id, 9, 5, noPrice) // something rests
			expectAmend(t, b, id, 9, 4, does(4, 0, 0, trades(4, 9, 4)))
			expectAmend(t, b, id, 8, 3, does(3, 0, 0, trades(4, 9, 3)))
		}
		for _, price := range []int64{10, 11, 12, api.MaxPrice} {
			expectAmend(t, b, 3, price, 6, does(0, 6, 0))
		}
		expectAmend(t, b, 3, 9, 5, does(4, 1, 0, trades(4, 9, 4)))
		expectAmend(t, b, 4, 5, 1, does(0, 1, 0))
	}
	// A price of the other side is none of its own, and goes with nobody.
	b := made(t, 9, 1, order(1, 1, api.Sell, 10, 5), order(2, 2, api.Sell, 10, 5), order(3, 3, api.Buy, 12, 5))
	expectNoAmend(t, b, 1, 12, 6, noPrice)
	expectAmend(t, b, 1, 12, 5, does(5, 0, 0, trades(3, 12, 5)))
	expectAmend(t, b, 3, 10, 11, does(10, 1, 0, trades(1, 10, 5), trades(2, 10, 5)))
}

func TestWorthOfHits(t *testing.T) {
	expectWorth(t, api.Plan{}, 0, true)
	expectWorth(t, api.Plan{Hits: []api.Hit{}}, 0, true)
	expectWorth(t, does(7, 8, 9), 0, true) // it is the hits that count
	expectWorth(t, does(0, 0, 0, yields(1, 10, 5), yields(2, 11, 5)), 0, true)
	expectWorth(t, does(0, 0, 0, trades(1, 1, 1)), 1, true)
	expectWorth(t, does(0, 0, 0, trades(1, 10, 5), yields(2, 10, 5), trades(3, 11, 2)), 72, true)
	expectWorth(t, does(0, 0, 0, trades(1, api.MaxPrice, 1), trades(2, 1, api.MaxQty)), 2000000000, true)
	expectWorth(t, does(0, 0, 0, trades(1, api.MaxPrice, api.MaxQty)), 1000000000000000000, true)
	expectWorth(t, does(least, greatest, -1, trades(least, 3, 4), trades(0, 5, 6)), 42, true)
}

func TestWorthOfNumbersThatMayNotBe(t *testing.T) {
	for _, n := range []int64{least, least + 1, -api.MaxPrice, -1, 0, api.MaxPrice + 1, 1 << 32, 1<<32 + 1, 1 << 62, greatest} {
		for _, h := range []api.Hit{trades(1, n, 1), trades(1, 1, n), trades(1, n, n), trades(1, n, api.MaxQty), trades(1, api.MaxPrice, n)} {
			for _, more := range [][]api.Hit{nil, {trades(2, 10, 5)}, {yields(2, 10, 5)}} {
				expectWorth(t, does(0, 0, 0, append([]api.Hit{h}, more...)...), 0, false)
				expectWorth(t, does(0, 0, 0, append(slices.Clone(more), h)...), 0, false)
			}
			h.Own = true
			expectWorth(t, does(0, 0, 0, h), 0, true)
			expectWorth(t, does(0, 0, 0, h, trades(2, 10, 5), h), 50, true)
		}
	}
}

// So many great hits that the sum just fits, and just does not.
func TestWorthAtTheBound(t *testing.T) {
	nine := slices.Repeat([]api.Hit{trades(1, api.MaxPrice, api.MaxQty)}, 9)
	expectWorth(t, does(0, 0, 0, nine...), 9000000000000000000, true)
	rest := []api.Hit{trades(2, api.MaxPrice, 223372036), trades(3, 1, 854775807)}
	just := slices.Concat(nine, rest)
	expectWorth(t, does(0, 0, 0, just...), greatest, true)
	for at := range len(just) + 1 {
		expectWorth(t, does(0, 0, 0, slices.Insert(slices.Clone(just), at, trades(4, 1, 1))...), 0, false)
		expectWorth(t, does(0, 0, 0, slices.Insert(slices.Clone(just), at, yields(4, 1, 1))...), greatest, true)
	}
	slices.Reverse(just)
	expectWorth(t, does(0, 0, 0, just...), greatest, true)
	for _, times := range []int{10, 18, 19, 20, 27, 37, 256, 5000} { // so that a sum that wraps would be below 0, above, and about 0 again
		expectWorth(t, does(0, 0, 0, slices.Repeat(nine[:1], times)...), 0, false)
	}
	expectWorth(t, does(0, 0, 0, append(slices.Repeat(nine[:1], 40), trades(1, 0, 1))...), 0, false)
	expectWorth(t, does(0, 0, 0, slices.Repeat([]api.Hit{yields(1, api.MaxPrice, api.MaxQty)}, 300)...), 0, true)
	expectWorth(t, does(0, 0, 0, slices.Repeat([]api.Hit{trades(1, 1, 1)}, 3000)...), 3000, true)
}

// Several are wrong at once: the one that the call's words name first is told (R1).
func TestSeveralWrongAtOnce(t *testing.T) {
	b := made(t, 2, 1, order(1, 1, api.Sell, 10, 5), order(2, 2, api.Buy, 8, 5)) // full, and without room for a price
	wrongs := []func(*api.Entry){
		func(e *api.Entry) { e.Kind = 0 },
		func(e *api.Entry) { e.Side = 3 },
		func(e *api.Entry) { e.Client = 9 },
		func(e *api.Entry) { e.Qty = 0 },
		func(e *api.Entry) { e.Price = api.MaxPrice + 1 },
	}
	for _, refused := range []struct {
		e    api.Entry
		want api.Errno
	}{
		{entry(3, api.Post, api.Buy, 10, 1), cross}, // it has no room, either
		{entry(1, api.Post, api.Buy, 11, 1), cross},
		{entry(3, api.All, api.Buy, 10, 6), kill},
		{entry(3, api.Limit, api.Buy, 9, 1), full}, // its price has no room, either
		{entry(3, api.Post, api.Buy, 9, 1), full},
		{entry(3, api.Limit, api.Buy, 10, 6), noPrice},
	} {
		expectRefused(t, b, refused.e, refused.want)
		for set := 1; set < 1<<len(wrongs); set++ {
			e := refused.e
			for i, do := range wrongs {
				if set>>i&1 == 1 {
					do(&e)
				}
			}
			expectRefused(t, b, e, wrong)
		}
	}
	expectNoAmend(t, b, 3, 0, 0, no)
	expectNoAmend(t, b, 0, api.MaxPrice+1, 1, no)
	b = made(t, 3, 1, order(1, 1, api.Sell, 10, 5), order(2, 2, api.Sell, 10, 5))
	expectNoAmend(t, b, 1, 11, 0, wrong) // for its price there would be no room, either
	expectNoAmend(t, b, 1, api.MaxPrice+1, 1, wrong)
	expectNoAmend(t, b, 1, 11, 1, noPrice)
}

// A list of Hits is its owner's: what is done to it is seen in no other one, of the same call or another (R2).
func TestHitsAreTheirOwners(t *testing.T) {
	b, e := plain(t), entry(3, api.Market, api.Buy, 0, 12)
	want := does(12, 0, 0, trades(1, 10, 5), trades(2, 10, 5), trades(3, 11, 2))
	for _, ask := range []func() api.Plan{
		func() api.Plan { p, _ := plan.Of(b, e); return p },
		func() api.Plan {
			p, _ := plan.Amend(made(t, 4, 2, three(order(4, 3, api.Buy, 8, 1))...), 4, 11, 12)
			return p
		},
	} {
		first, second := ask(), ask()
		room := first.Hits[:cap(first.Hits)]
		for i := range room {
			room[i] = trades(7, 7, 7)
		}
		_ = append(first.Hits, trades(9, 9, 9))
		if !same(second, want) {
			t.Errorf("behind a change of one list the other one is %+v; want %+v", second, want)
		}
		if third := ask(); !same(third, want) {
			t.Errorf("behind a change of one list the next one is %+v; want %+v", third, want)
		}
	}
	expectOf(t, b, e, want)
}

// What lies behind a list's length is not read, and what is handed in is not changed (R2).
func TestWorthReadsTheListAlone(t *testing.T) {
	behind := []api.Hit{trades(1, 10, 5), yields(2, 0, 0), trades(3, -1, -1)}
	was := slices.Clone(behind)
	expectWorth(t, api.Plan{Hits: behind[:2]}, 50, true)
	expectWorth(t, api.Plan{Hits: behind}, 0, false)
	expectWorth(t, api.Plan{Hits: behind[:0]}, 0, true)
	if !slices.Equal(behind, was) {
		t.Errorf("the list is %v; want %v", behind, was)
	}
}
