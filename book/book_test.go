package book_test

import (
	"iter"
	"math"
	"slices"
	"testing"

	"tripwire/api"
	"tripwire/book"
)

func TestNew(t *testing.T) {
	for _, c := range []struct {
		orders, levels int
		want           api.Errno
	}{
		{0, 0, api.OK}, {0, 1, api.OK}, {1, 0, api.OK}, {1, 1, api.OK}, {256, 128, api.OK}, {0, 128, api.OK}, {256, 0, api.OK}, {255, 127, api.OK},
		{-1, 1, wrong}, {257, 1, wrong}, {1, -1, wrong}, {1, 129, wrong}, {-1, -1, wrong}, {257, 129, wrong}, {-1, 129, wrong},
		{math.MinInt, 1, wrong}, {math.MaxInt, 1, wrong}, {1, math.MinInt, wrong}, {1, math.MaxInt, wrong}, {1 << 32, 1, wrong}, {1, 1 << 32, wrong},
	} {
		b, e := book.New(c.orders, c.levels)
		if e != c.want || (b == nil) != (e != api.OK) {
			t.Errorf("New(%d, %d) is %v, %d; want %d", c.orders, c.levels, b, e, c.want)
		}
		if b != nil {
			p := pair{b, &model{orders: c.orders, levels: c.levels}}
			p.expectSame(t, least, -1, 0, 1, 5, api.MaxPrice, api.MaxPrice+1, greatest)
		}
	}
}

// TestAllRoom fills the greatest book: all prices of both sides, and all orders; then an order of each price goes, and comes again.
func TestAllRoom(t *testing.T) {
	p := paired(t, 256, 128)
	for i := range 256 {
		side := both[i%2]
		p.insert(t, order(i+1, i%8+1, side, int64(i/2*37%128)+1, api.MaxQty))
	}
	expectCounts(t, p.b, 256, 0, 0, 0)
	expectInsert(t, p.b, order(257, 1, api.Buy, 1, 1), full)
	expectInsert(t, p.b, order(257, 1, api.Sell, 200, 1), full)
	for client := 1; client <= 8; client++ {
		expectOpen(t, p.b, client, 32, 32*api.MaxQty)
	}
	p.expectSame(t, 1, 64, 128, 129)
	for id := 256; id >= 1; id -= 3 {
		p.remove(t, id)
	}
	p.expectSame(t, 1, 64, 128, 129)
	for id := 1; id <= 256; id++ {
		p.insert(t, order(id, 1, both[id/2%2], int64(id)+100, 3))
	}
	p.expectSame(t, 1, 64, 128, 129, 300)
}

// TestAllOrdersOfOnePrice lets one price have all orders that may be: what is open there is MaxOpen.
func TestAllOrdersOfOnePrice(t *testing.T) {
	p := paired(t, 256, 1)
	for id := 256; id >= 1; id-- {
		p.insert(t, order(id, 8, api.Buy, api.MaxPrice, api.MaxQty))
	}
	expectDepth(t, p.b, api.Buy, 1, api.Level{Price: api.MaxPrice, Qty: api.MaxOpen, Orders: 256})
	expectOpen(t, p.b, 8, 256, api.MaxOpen)
	p.expectSame(t, 1)
}

func TestWhatMayRest(t *testing.T) {
	for _, c := range []struct {
		o    api.Order
		want api.Errno
	}{
		{order(1, 1, api.Buy, 1, 1), api.OK},
		{order(math.MaxInt, 8, api.Sell, api.MaxPrice, api.MaxQty), api.OK},
		{order(2, 1, api.Buy, 5, 5), api.OK}, {order(api.MaxIDs+1, 1, api.Buy, 5, 5), api.OK},
		{order(0, 1, api.Buy, 5, 5), wrong}, {order(-1, 1, api.Buy, 5, 5), wrong}, {order(math.MinInt, 1, api.Buy, 5, 5), wrong},
		{order(5, 1, api.Buy, 5, 5), api.OK}, {order(5, 8, api.Buy, 5, 5), api.OK},
		{order(5, 0, api.Buy, 5, 5), wrong}, {order(5, 9, api.Buy, 5, 5), wrong}, {order(5, -1, api.Buy, 5, 5), wrong}, {order(5, math.MinInt, api.Buy, 5, 5), wrong}, {order(5, math.MaxInt, api.Buy, 5, 5), wrong}, {order(5, 1<<32+1, api.Buy, 5, 5), wrong},
		{order(5, 1, api.Sell, 5, 5), api.OK},
		{order(5, 1, 0, 5, 5), wrong}, {order(5, 1, 3, 5, 5), wrong}, {order(5, 1, 4, 5, 5), wrong}, {order(5, 1, 255, 5, 5), wrong},
		{order(5, 1, api.Buy, 1, 5), api.OK}, {order(5, 1, api.Buy, api.MaxPrice, 5), api.OK},
		{order(5, 1, api.Buy, 0, 5), wrong}, {order(5, 1, api.Buy, -1, 5), wrong}, {order(5, 1, api.Buy, api.MaxPrice+1, 5), wrong}, {order(5, 1, api.Buy, least, 5), wrong}, {order(5, 1, api.Buy, greatest, 5), wrong}, {order(5, 1, api.Sell, 1<<32+5, 5), wrong},
		{order(5, 1, api.Buy, 5, 1), api.OK}, {order(5, 1, api.Buy, 5, api.MaxQty), api.OK},
		{order(5, 1, api.Buy, 5, 0), wrong}, {order(5, 1, api.Buy, 5, -1), wrong}, {order(5, 1, api.Buy, 5, api.MaxQty+1), wrong}, {order(5, 1, api.Buy, 5, least), wrong}, {order(5, 1, api.Buy, 5, greatest), wrong}, {order(5, 1, api.Sell, 5, 1<<32+5), wrong},
		{api.Order{}, wrong},
	} {
		p := paired(t, 2, 1)
		expectInsert(t, p.b, c.o, c.want)
		if c.want == api.OK {
			p.m.there = append(p.m.there, c.o)
		}
		p.expectSame(t, 1, 5, 0)
	}
}

// That an order may not rest is named first; that it is there ahead of that there is no room for it; that there is no room for an order ahead of that there is none for a price.
func TestWhichErrorIsNamed(t *testing.T) {
	b := made(t, 2, 1, order(1, 1, api.Sell, 10, 5))
	expectInsert(t, b, order(1, 1, api.Sell, 10, 0), wrong)
	expectInsert(t, b, order(1, 9, api.Sell, 11, 5), wrong)
	expectInsert(t, b, order(1, 1, api.Sell, 10, 5), twice)
	expectInsert(t, b, order(1, 1, api.Sell, 11, 5), twice)
	expectInsert(t, b, order(1, 2, api.Buy, 9, 3), twice)
	expectInsert(t, b, order(2, 1, api.Sell, 11, 5), noPrice)
	expectFits(t, b, api.Sell, 11, noPrice)
	expectFits(t, b, api.Sell, 10, api.OK)
	expectInsert(t, b, order(2, 1, api.Sell, 10, 5), api.OK)
	for range 2 {
		expectInsert(t, b, order(1, 1, api.Sell, api.MaxPrice+1, 5), wrong)
		expectInsert(t, b, order(3, 1, 3, 10, 5), wrong)
		expectInsert(t, b, order(1, 1, api.Sell, 10, 5), twice)
		expectInsert(t, b, order(2, 1, api.Sell, 11, 5), twice)
		expectInsert(t, b, order(3, 1, api.Sell, 10, 5), full)
		expectInsert(t, b, order(3, 1, api.Sell, 11, 5), full)
		expectInsert(t, b, order(3, 1, api.Buy, 9, 5), full)
		expectFits(t, b, api.Sell, 10, full)
		expectFits(t, b, api.Sell, 11, full)
		expectFits(t, b, api.Buy, 9, full)
		expectFits(t, b, api.Sell, 0, wrong)
		expectFits(t, b, 0, 10, wrong)
	}
}

func TestFits(t *testing.T) {
	roomy, crowded, without := made(t, 4, 2, order(1, 1, api.Buy, 5, 5)), made(t, 1, 2, order(1, 1, api.Buy, 5, 5)), made(t, 4, 0)
	for _, side := range both {
		for _, at := range []int64{1, 4, 5, 6, api.MaxPrice} {
			expectFits(t, roomy, side, at, api.OK)
			expectFits(t, crowded, side, at, full)
			expectFits(t, without, side, at, noPrice)
		}
		for _, at := range []int64{least, -5, -1, 0, api.MaxPrice + 1, 1<<32 + 5, greatest} {
			expectFits(t, roomy, side, at, wrong)
			expectFits(t, crowded, side, at, wrong)
			expectFits(t, without, side, at, wrong)
		}
	}
}

// A book without room for orders, and one without room for prices.
func TestNoRoom(t *testing.T) {
	for _, side := range both {
		b := made(t, 0, 5)
		expectFits(t, b, side, 1, full)
		expectInsert(t, b, order(1, 1, side, 1, 1), full)
		expectInsert(t, b, order(0, 1, side, 1, 1), wrong)
		expectCounts(t, b, 0, 0, 5, 5)
		b = made(t, 5, 0)
		expectFits(t, b, side, 1, noPrice)
		expectInsert(t, b, order(1, 1, side, 1, 1), noPrice)
		expectInsert(t, b, order(1, 1, side, 0, 1), wrong)
		expectCounts(t, b, 0, 5, 0, 0)
		b = made(t, 0, 0)
		expectFits(t, b, side, 1, full)
		expectInsert(t, b, order(1, 1, side, 1, 1), full)
		expectCounts(t, b, 0, 0, 0, 0)
	}
}

// The prices of one side take no room of the other one; orders share theirs.
func TestRoomOfBothSides(t *testing.T) {
	b := made(t, 3, 1, order(1, 1, api.Buy, 9, 1))
	expectCounts(t, b, 1, 2, 0, 1)
	expectInsert(t, b, order(2, 1, api.Sell, 12, 1), api.OK)
	expectCounts(t, b, 2, 1, 0, 0)
	expectInsert(t, b, order(3, 1, api.Sell, 9, 1), noPrice)
	expectInsert(t, b, order(3, 1, api.Buy, 12, 1), noPrice)
	expectInsert(t, b, order(3, 1, api.Buy, 9, 1), api.OK)
	expectCounts(t, b, 3, 0, 0, 0)
	expectInsert(t, b, order(4, 1, api.Sell, 12, 1), full)
	expectOrders(t, b, api.Buy, 1, 3)
	expectOrders(t, b, api.Sell, 2)
}

func TestRoomAgain(t *testing.T) {
	b := made(t, 2, 1, order(1, 1, api.Sell, 10, 5), order(2, 1, api.Sell, 10, 6))
	expectInsert(t, b, order(3, 1, api.Sell, 10, 7), full)
	expectRemove(t, b, 3, api.Order{}, no)
	expectInsert(t, b, order(3, 1, api.Sell, 10, 7), full)
	expectRemove(t, b, 1, order(1, 1, api.Sell, 10, 5), api.OK)
	expectInsert(t, b, order(3, 1, api.Sell, 11, 7), noPrice)
	expectInsert(t, b, order(3, 1, api.Sell, 10, 7), api.OK)
	expectInsert(t, b, order(1, 1, api.Sell, 10, 5), full)
	expectRemove(t, b, 2, order(2, 1, api.Sell, 10, 6), api.OK)
	expectInsert(t, b, order(1, 1, api.Sell, 11, 5), noPrice)
	expectRemove(t, b, 3, order(3, 1, api.Sell, 10, 7), api.OK)
	expectCounts(t, b, 0, 2, 1, 1)
	expectInsert(t, b, order(1, 1, api.Sell, 11, 5), api.OK)
	expectInsert(t, b, order(2, 1, api.Sell, 10, 5), noPrice)
	expectOrders(t, b, api.Sell, 1)
	expectCounts(t, b, 1, 1, 1, 0)
}

// A price whose last order is taken out is gone; what comes there later stands there alone.
func TestAPriceThatComesAgain(t *testing.T) {
	for _, side := range both {
		b := made(t, 4, 3, order(1, 1, side, 10, 5), order(2, 1, side, 20, 6), order(3, 1, side, 20, 7))
		expectRemove(t, b, 2, order(2, 1, side, 20, 6), api.OK)
		if b.Prices(side) != 1 {
			t.Error("a price that has an order is gone")
		}
		expectRemove(t, b, 3, order(3, 1, side, 20, 7), api.OK)
		if b.Prices(side) != 2 {
			t.Error("a price without orders is there")
		}
		expectBest(t, b, side, 10)
		expectDepth(t, b, side, 9, api.Level{Price: 10, Qty: 5, Orders: 1})
		expectRemove(t, b, 1, order(1, 1, side, 10, 5), api.OK)
		expectBest(t, b, side, 0)
		expectDepth(t, b, side, 9)
		expectInsert(t, b, order(4, 1, side, 20, 8), api.OK)
		expectInsert(t, b, order(2, 1, side, 20, 9), api.OK)
		expectBest(t, b, side, 20)
		expectOrders(t, b, side, 4, 2)
		expectDepth(t, b, side, 9, api.Level{Price: 20, Qty: 17, Orders: 2})
		if b.Prices(side) != 2 {
			t.Error("Prices is", b.Prices(side))
		}
	}
}

// Of four orders of one price, with others at a better and at a worse one, any is taken out, and comes again behind all.
func TestRemoveAnyOne(t *testing.T) {
	for _, side := range both {
		for i := range 4 {
			p := paired(t, 6, 3, order(5, 2, side, 19, 3))
			for id := 1; id <= 4; id++ {
				p.insert(t, order(id, id, side, 20, int64(id)))
			}
			p.insert(t, order(6, 2, side, 21, 3))
			taken := order(i+1, i+1, side, 20, int64(i)+1)
			expectRemove(t, p.b, i+1, taken, api.OK)
			expectGet(t, p.b, i+1, api.Order{}, false)
			expectRemove(t, p.b, i+1, api.Order{}, no)
			expectReduce(t, p.b, i+1, 1, no)
			p.m.remove(i + 1)
			p.expectSame(t, 19, 20, 21)
			p.insert(t, taken)
			middle := slices.Delete([]int{1, 2, 3, 4}, i, i+1)
			middle = append(middle, i+1)
			want := append(append([]int{5}, middle...), 6)
			if side == api.Buy {
				want[0], want[5] = 6, 5
			}
			expectOrders(t, p.b, side, want...)
			p.expectSame(t, 19, 20, 21)
		}
	}
}

func TestRemoveTheOnlyOne(t *testing.T) {
	for _, side := range both {
		p := paired(t, 2, 2, order(7, 3, side, 5, 9))
		for _, id := range []int{math.MinInt, -7, -1, 0, 1, 6, 8, math.MaxInt} {
			expectRemove(t, p.b, id, api.Order{}, no)
			expectGet(t, p.b, id, api.Order{}, false)
			expectReduce(t, p.b, id, 1, no)
		}
		p.expectSame(t, 4, 5, 6)
		p.remove(t, 7)
		p.expectSame(t, 4, 5, 6)
		p.remove(t, 7)
		p.insert(t, order(7, 4, side, 6, 1))
		p.expectSame(t, 4, 5, 6)
	}
}

func TestReduce(t *testing.T) {
	for _, side := range both {
		p := paired(t, 5, 2, order(1, 1, side, 10, 4), order(2, 2, side, 10, 9), order(3, 3, side, 10, 1), order(4, 3, side, 11, api.MaxQty))
		for _, c := range []struct {
			id   int
			by   int64
			want api.Errno
			left int64
		}{
			{2, 0, badQty, 9}, {2, -1, badQty, 9}, {2, -9, badQty, 9}, {2, least, badQty, 9}, {2, 9, badQty, 9}, {2, 10, badQty, 9}, {2, greatest, badQty, 9}, {2, 1<<32 + 1, badQty, 9},
			{2, 1, api.OK, 8}, {2, 8, badQty, 8}, {2, 7, api.OK, 1}, {2, 1, badQty, 1}, {2, 0, badQty, 1},
			{3, 1, badQty, 1}, {3, 0, badQty, 1}, {1, 3, api.OK, 1},
			{4, api.MaxQty, badQty, api.MaxQty}, {4, api.MaxQty - 1, api.OK, 1},
			{5, 1, no, 0}, {5, 0, no, 0}, {0, -1, no, 0}, {-1, least, no, 0},
		} {
			expectReduce(t, p.b, c.id, c.by, c.want)
			if o, _ := p.b.Get(c.id); o.Qty != c.left {
				t.Errorf("Reduce(%d, %d) leaves %d; want %d", c.id, c.by, o.Qty, c.left)
			}
			if at := p.m.find(c.id); at != -1 {
				p.m.there[at].Qty = c.left
			}
			p.expectSame(t, 10, 11)
		}
		p.insert(t, order(5, 1, side, 10, 2))
		p.expectSame(t, 10, 11)
		expectRemove(t, p.b, 2, order(2, 2, side, 10, 1), api.OK)
	}
}

func TestDepth(t *testing.T) {
	b := made(t, 8, 4, order(1, 1, api.Buy, 20, 1), order(2, 1, api.Buy, 30, 2), order(3, 2, api.Buy, 10, 4), order(4, 2, api.Buy, 20, 8),
		order(5, 1, api.Sell, 20, 16), order(6, 1, api.Sell, 25, 32), order(7, 8, api.Sell, 20, 64))
	buy := []api.Level{{Price: 30, Qty: 2, Orders: 1}, {Price: 20, Qty: 9, Orders: 2}, {Price: 10, Qty: 4, Orders: 1}}
	sell := []api.Level{{Price: 20, Qty: 80, Orders: 2}, {Price: 25, Qty: 32, Orders: 1}}
	for _, most := range []int{math.MinInt, -2, -1, 0} {
		expectDepth(t, b, api.Buy, most)
		expectDepth(t, b, api.Sell, most)
	}
	for _, most := range []int{1, 2, 3, 4, 5, 128, 129, math.MaxInt} {
		expectDepth(t, b, api.Buy, most, buy[:min(most, 3)]...)
		expectDepth(t, b, api.Sell, most, sell[:min(most, 2)]...)
	}
}

// A list that came out is its owner's (R2): what is done to it, also behind its end, is seen nowhere else.
func TestADepthIsItsOwners(t *testing.T) {
	p := paired(t, 4, 4, order(1, 1, api.Buy, 20, 1), order(2, 1, api.Buy, 30, 2), order(3, 2, api.Buy, 10, 4))
	for most := 1; most <= 4; most++ {
		one, other := p.b.Depth(api.Buy, most), p.b.Depth(api.Buy, most)
		for i := range one[:cap(one)] {
			one[:cap(one)][i] = api.Level{Price: -1, Qty: -1, Orders: -1}
		}
		one = append(one, api.Level{Price: 7})
		if !slices.Equal(other, p.m.depth(api.Buy, most)) {
			t.Error("a list shares its memory with another one:", other)
		}
		p.expectSame(t, 20)
	}
	o, _ := p.b.Get(1)
	o.Qty = 77
	expectGet(t, p.b, 1, order(1, 1, api.Buy, 20, 1), true)
}

func TestNoSuchSide(t *testing.T) {
	p := paired(t, 4, 3, order(1, 1, api.Buy, 9, 1), order(2, 1, api.Sell, 11, 2))
	for _, side := range noSides {
		expectBest(t, p.b, side, 0)
		expectOrders(t, p.b, side)
		for _, n := range []int64{least, -1, 0, 1, 9, 11, api.MaxPrice, greatest} {
			expectFacing(t, p.b, side, n)
			expectFits(t, p.b, side, n, wrong)
			expectDepth(t, p.b, side, int(n))
			expectInsert(t, p.b, order(3, 1, side, n, 1), wrong)
		}
		if n := p.b.Prices(side); n != 0 {
			t.Errorf("Prices(%d) is %d", side, n)
		}
	}
	p.expectSame(t, 9, 10, 11)
}

// Of each limit: what who buys meets of Sell orders at 10, 20 and 30, and who sells of Buy orders at these prices.
func TestFacing(t *testing.T) {
	b := made(t, 8, 3, order(1, 1, api.Sell, 20, 1), order(2, 1, api.Sell, 30, 1), order(3, 1, api.Sell, 10, 1), order(4, 1, api.Sell, 20, 1),
		order(5, 1, api.Buy, 20, 1), order(6, 1, api.Buy, 30, 1), order(7, 1, api.Buy, 10, 1), order(8, 1, api.Buy, 20, 1))
	sells, buys := []int{3, 1, 4, 2}, []int{6, 5, 8, 7}
	for _, c := range []struct {
		limit     int64
		buy, sell int // how many are met
	}{
		{0, 4, 4},
		{10, 1, 4}, {20, 3, 3}, {30, 4, 1},
		{1, 0, 4}, {9, 0, 4}, {11, 1, 3}, {15, 1, 3}, {19, 1, 3}, {21, 3, 1}, {29, 3, 1}, {31, 4, 0},
		{-1, 0, 4}, {-20, 0, 4}, {least, 0, 4}, {least + 1, 0, 4},
		{api.MaxPrice, 4, 0}, {api.MaxPrice + 1, 4, 0}, {1 << 32, 4, 0}, {1<<32 + 10, 4, 0}, {greatest, 4, 0},
	} {
		expectFacing(t, b, api.Buy, c.limit, sells[:c.buy]...)
		expectFacing(t, b, api.Sell, c.limit, buys[:c.sell]...)
	}
	expectOrders(t, b, api.Sell, sells...)
	expectOrders(t, b, api.Buy, buys...)
}

// A book does not mind whether Buy and Sell prices meet, nor whose orders they are.
func TestPricesThatMeet(t *testing.T) {
	p := paired(t, 4, 2, order(1, 1, api.Buy, 12, 5), order(2, 1, api.Sell, 10, 5), order(3, 1, api.Sell, 12, 5), order(4, 1, api.Buy, 10, 5))
	p.expectSame(t, 9, 11, 13)
	expectBest(t, p.b, api.Buy, 12)
	expectBest(t, p.b, api.Sell, 10)
	p.remove(t, 1)
	p.remove(t, 3)
	p.expectSame(t, 9, 10, 11, 12, 13)
}

// A number says nothing of when its order came.
func TestNumbersAreNoTimes(t *testing.T) {
	for _, side := range both {
		b := made(t, 4, 1, order(9, 1, side, 5, 1), order(3, 1, side, 5, 1), order(math.MaxInt, 1, side, 5, 1), order(1, 1, side, 5, 1))
		expectOrders(t, b, side, 9, 3, math.MaxInt, 1)
		expectRemove(t, b, 3, order(3, 1, side, 5, 1), api.OK)
		expectInsert(t, b, order(2, 1, side, 5, 1), api.OK)
		expectOrders(t, b, side, 9, math.MaxInt, 1, 2)
	}
}

func TestOpen(t *testing.T) {
	b := made(t, 6, 3, order(1, 1, api.Buy, 9, 1), order(2, 8, api.Sell, 11, 2), order(3, 1, api.Sell, 12, 4), order(4, 1, api.Buy, 9, 8), order(5, 2, api.Buy, 7, 16))
	expectOpen(t, b, 1, 3, 13)
	expectOpen(t, b, 2, 1, 16)
	expectOpen(t, b, 8, 1, 2)
	for _, client := range []int{math.MinInt, -1, 0, 3, 7, 9, 1<<32 + 1, math.MaxInt} {
		expectOpen(t, b, client, 0, 0)
	}
	expectReduce(t, b, 4, 7, api.OK)
	expectOpen(t, b, 1, 3, 6)
	expectRemove(t, b, 3, order(3, 1, api.Sell, 12, 4), api.OK)
	expectOpen(t, b, 1, 2, 2)
	expectRemove(t, b, 2, order(2, 8, api.Sell, 11, 2), api.OK)
	expectOpen(t, b, 8, 0, 0)
}

// crowd is a book with orders of both sides at three prices each.
func crowd(t *testing.T) *book.Book {
	t.Helper()
	b := made(t, 12, 3)
	for id := 1; id <= 6; id++ {
		expectInsert(t, b, order(id, id, api.Sell, int64(id%3)+10, 1), api.OK)
		expectInsert(t, b, order(id+6, id, api.Buy, int64(id%3)+7, 1), api.OK)
	}
	return b
}

func TestAWalkIsLeftEarly(t *testing.T) {
	b := crowd(t)
	for _, walk := range []iter.Seq[api.Order]{b.Orders(api.Buy), b.Orders(api.Sell), b.Facing(api.Buy, 11), b.Facing(api.Sell, 8), b.Facing(api.Sell, 0)} {
		whole := slices.Collect(walk)
		if len(whole) < 4 {
			t.Fatal("too few are told:", whole)
		}
		for stop := range whole {
			var got []api.Order
			for o := range walk {
				got = append(got, o)
				if len(got) == stop+1 {
					break
				}
			}
			if !slices.Equal(got, whole[:stop+1]) {
				t.Errorf("left behind %d: %v", stop+1, got)
			}
		}
		expectWalk(t, walk, whole)
	}
	if b.Len() != 12 {
		t.Error("Len is", b.Len())
	}
}

func TestAWalkWithinAWalk(t *testing.T) {
	b := made(t, 4, 2, order(1, 1, api.Sell, 11, 3), order(2, 2, api.Sell, 10, 4), order(3, 1, api.Sell, 10, 5))
	walk := b.Facing(api.Buy, 10)
	var got []int
	for x := range walk {
		for y := range walk {
			got = append(got, 10*x.ID+y.ID)
		}
		got = append(got, numbers(b.Orders(api.Sell))...)
		n, _ := b.Open(x.Client)
		got = append(got, n, len(b.Depth(api.Sell, 9)), int(b.Best(x.Side)), int(b.Fits(x.Side, x.Price)))
		if o, is := b.Get(x.ID); o != x || !is {
			t.Error(o, is)
		}
	}
	if !slices.Equal(got, []int{22, 23, 2, 3, 1, 1, 2, 10, 0, 32, 33, 2, 3, 1, 2, 2, 10, 0}) {
		t.Error(got)
	}
}

// A walk tells what the book has when it is ranged over, not when it was asked for (R10).
func TestAWalkTellsWhatIsThere(t *testing.T) {
	b := made(t, 4, 2)
	orders, facing := b.Orders(api.Sell), b.Facing(api.Buy, 10)
	expectTold := func(all, near []int) {
		t.Helper()
		if got := numbers(orders); !slices.Equal(got, all) {
			t.Errorf("Orders tells %v; want %v", got, all)
		}
		if got := numbers(facing); !slices.Equal(got, near) {
			t.Errorf("Facing tells %v; want %v", got, near)
		}
	}
	expectTold(nil, nil)
	expectInsert(t, b, order(1, 1, api.Sell, 11, 3), api.OK)
	expectTold([]int{1}, nil)
	expectInsert(t, b, order(2, 1, api.Sell, 10, 3), api.OK)
	expectInsert(t, b, order(3, 1, api.Sell, 10, 3), api.OK)
	expectTold([]int{2, 3, 1}, []int{2, 3})
	expectReduce(t, b, 2, 2, api.OK)
	for o := range facing {
		if o.Qty != 1 {
			t.Error("it tells what was open of it:", o)
		}
		break
	}
	expectRemove(t, b, 1, order(1, 1, api.Sell, 11, 3), api.OK)
	expectRemove(t, b, 2, order(2, 1, api.Sell, 10, 1), api.OK)
	expectInsert(t, b, order(1, 1, api.Sell, 9, 3), api.OK)
	expectTold([]int{1, 3}, []int{1, 3})
	expectRemove(t, b, 1, order(1, 1, api.Sell, 9, 3), api.OK)
	expectRemove(t, b, 3, order(3, 1, api.Sell, 10, 3), api.OK)
	expectTold(nil, nil)
}

// Two walks may be gone through in turn, each at its own place.
func TestTwoWalksInTurn(t *testing.T) {
	b := crowd(t)
	whole, part := slices.Collect(b.Orders(api.Sell)), slices.Collect(b.Facing(api.Buy, 11))
	all, stopAll := iter.Pull(b.Orders(api.Sell))
	defer stopAll()
	some, stopSome := iter.Pull(b.Facing(api.Buy, 11))
	defer stopSome()
	for i := range part {
		if o, is := all(); o != whole[i] || !is {
			t.Error(o, is)
		}
		if o, is := some(); o != part[i] || !is {
			t.Error(o, is)
		}
	}
	if _, is := some(); is || len(part) != 4 {
		t.Error("one more")
	}
	if o, is := all(); o != whole[len(part)] || !is {
		t.Error("one less")
	}
}
