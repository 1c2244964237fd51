package book_test

import (
	"iter"
	"slices"
	"testing"

	"tripwire/api"
	"tripwire/book"
)

// both are the sides that there are, noSides some numbers that are none.
var (
	both    = []api.Side{api.Buy, api.Sell}
	noSides = []api.Side{0, 3, 4, 128, 254, 255}
)

// model is a book by the chapter's words alone: a list of orders as they came, of which all is counted anew.
type model struct {
	orders, levels int
	there          []api.Order
}

// find is where an order stands in the list; -1: nowhere.
func (m *model) find(id int) int {
	return slices.IndexFunc(m.there, func(o api.Order) bool { return o.ID == id })
}

// prices are those of a side, the best first.
func (m *model) prices(side api.Side) []int64 {
	var l []int64
	for _, o := range m.there {
		if o.Side == side && !slices.Contains(l, o.Price) {
			l = append(l, o.Price)
		}
	}
	slices.Sort(l)
	if side == api.Buy {
		slices.Reverse(l)
	}
	return l
}

// at are the orders of a side and a price, as they came.
func (m *model) at(side api.Side, at int64) []api.Order {
	var l []api.Order
	for _, o := range m.there {
		if o.Side == side && o.Price == at {
			l = append(l, o)
		}
	}
	return l
}

func (m *model) side(side api.Side) []api.Order {
	var l []api.Order
	for _, p := range m.prices(side) {
		l = append(l, m.at(side, p)...)
	}
	return l
}

func (m *model) facing(side api.Side, limit int64) []api.Order {
	var l []api.Order
	switch side {
	case api.Buy:
		for _, o := range m.side(api.Sell) {
			if limit == 0 || o.Price <= limit {
				l = append(l, o)
			}
		}
	case api.Sell:
		for _, o := range m.side(api.Buy) {
			if limit == 0 || o.Price >= limit {
				l = append(l, o)
			}
		}
	}
	return l
}

func (m *model) depth(side api.Side, most int) []api.Level {
	var l []api.Level
	for i, p := range m.prices(side) {
		if i >= most {
			break
		}
		level := api.Level{Price: p}
		for _, o := range m.at(side, p) {
			level.Qty += o.Qty
			level.Orders++
		}
		l = append(l, level)
	}
	return l
}

func (m *model) fits(side api.Side, at int64) api.Errno {
	switch {
	case side != api.Buy && side != api.Sell || at < 1 || at > 1000000000:
		return wrong
	case len(m.there) == m.orders:
		return full
	case len(m.at(side, at)) == 0 && len(m.prices(side)) == m.levels:
		return noPrice
	}
	return api.OK
}

func (m *model) insert(o api.Order) api.Errno {
	switch {
	case o.ID < 1, o.Client < 1, o.Client > 8, o.Qty < 1, o.Qty > 1000000000, m.fits(o.Side, o.Price) == wrong:
		return wrong
	case m.find(o.ID) != -1:
		return twice
	}
	e := m.fits(o.Side, o.Price)
	if e == api.OK {
		m.there = append(m.there, o)
	}
	return e
}

func (m *model) remove(id int) (api.Order, api.Errno) {
	i := m.find(id)
	if i == -1 {
		return api.Order{}, no
	}
	o := m.there[i]
	m.there = slices.Delete(m.there, i, i+1)
	return o, api.OK
}

func (m *model) reduce(id int, by int64) api.Errno {
	i := m.find(id)
	switch {
	case i == -1:
		return no
	case by < 1 || by > m.there[i].Qty-1:
		return badQty
	}
	m.there[i].Qty -= by
	return api.OK
}

func (m *model) open(client int) (int, int64) {
	n, q := 0, int64(0)
	for _, o := range m.there {
		if o.Client == client {
			n, q = n+1, q+o.Qty
		}
	}
	return n, q
}

// pair is a book and the model to which it is held.
type pair struct {
	b *book.Book
	m *model
}

func paired(t *testing.T, orders, levels int, l ...api.Order) pair {
	t.Helper()
	p := pair{made(t, orders, levels), &model{orders: orders, levels: levels}}
	for _, o := range l {
		p.insert(t, o)
	}
	return p
}

func (p pair) insert(t *testing.T, o api.Order) {
	t.Helper()
	expectInsert(t, p.b, o, p.m.insert(o))
}

func (p pair) remove(t *testing.T, id int) {
	t.Helper()
	o, e := p.m.remove(id)
	expectRemove(t, p.b, id, o, e)
}

func (p pair) reduce(t *testing.T, id int, by int64) {
	t.Helper()
	expectReduce(t, p.b, id, by, p.m.reduce(id, by))
}

// expectSame asks a book all that can be asked: of its orders and sides, and of some numbers that may be prices, limits, clients, or anything else.
func (p pair) expectSame(t *testing.T, asked ...int64) {
	t.Helper()
	for _, o := range p.m.there {
		expectGet(t, p.b, o.ID, o, true)
	}
	for _, side := range both {
		p.expectSameSide(t, side, asked...)
	}
	expectCounts(t, p.b, len(p.m.there), p.m.orders-len(p.m.there), p.m.levels-len(p.m.prices(api.Buy)), p.m.levels-len(p.m.prices(api.Sell)))
	for client := -1; client <= 10; client++ {
		n, q := p.m.open(client)
		expectOpen(t, p.b, client, n, q)
	}
	for _, n := range asked {
		if p.m.find(int(n)) == -1 {
			expectGet(t, p.b, int(n), api.Order{}, false)
		}
	}
}

func (p pair) expectSameSide(t *testing.T, side api.Side, asked ...int64) {
	t.Helper()
	best, prices := int64(0), p.m.prices(side)
	if len(prices) > 0 {
		best = prices[0]
	}
	expectBest(t, p.b, side, best)
	expectWalk(t, p.b.Orders(side), p.m.side(side))
	expectWalk(t, p.b.Facing(side, 0), p.m.facing(side, 0))
	for most := -1; most <= len(prices)+1; most++ {
		expectDepth(t, p.b, side, most, p.m.depth(side, most)...)
	}
	for _, n := range append(prices, asked...) {
		expectWalk(t, p.b.Facing(side, n), p.m.facing(side, n))
		expectFits(t, p.b, side, n, p.m.fits(side, n))
	}
}

func expectWalk(t *testing.T, walk iter.Seq[api.Order], want []api.Order) {
	t.Helper()
	if got := slices.Collect(walk); !slices.Equal(got, want) {
		t.Errorf("the walk tells %v; want %v", got, want)
	}
}

// expectFit holds what a book tells against what it tells, without a model.
func expectFit(t *testing.T, b *book.Book, orders, levels int) {
	t.Helper()
	count, sum := 0, int64(0)
	for _, side := range both {
		told, depth := slices.Collect(b.Orders(side)), b.Depth(side, levels)
		count += len(told)
		expectByPriority(t, side, told)
		expectTogether(t, told, depth)
		if len(depth)+b.Prices(side) != levels {
			t.Errorf("side %d has %d prices and room for %d; want %d together", side, len(depth), b.Prices(side), levels)
		}
		if len(depth) == 0 && b.Best(side) != 0 || len(depth) > 0 && b.Best(side) != depth[0].Price {
			t.Errorf("Best(%d) is %d; Depth is %v", side, b.Best(side), depth)
		}
		expectFirstParts(t, b, side, told)
		for _, o := range told {
			expectGet(t, b, o.ID, o, true)
			expectInsert(t, b, o, twice)
			sum += o.Qty
		}
	}
	if count != b.Len() || b.Len()+b.Room() != orders {
		t.Errorf("%d orders are told, Len is %d, Room is %d; want %d together", count, b.Len(), b.Room(), orders)
	}
	for client := 1; client <= 8; client++ {
		n, q := b.Open(client)
		count, sum = count-n, sum-q
	}
	if count != 0 || sum != 0 {
		t.Errorf("Open of all clients leaves %d orders and %d lots out", count, sum)
	}
}

// expectByPriority says if no better price stands behind a worse one, and if no order is told twice.
func expectByPriority(t *testing.T, side api.Side, told []api.Order) {
	t.Helper()
	times := map[int]int{}
	for i, o := range told {
		times[o.ID]++
		if o.Side != side || times[o.ID] > 1 {
			t.Errorf("side %d tells %v, %d times", side, o, times[o.ID])
		}
		if i > 0 && (side == api.Buy && o.Price > told[i-1].Price || side == api.Sell && o.Price < told[i-1].Price) {
			t.Errorf("%v stands behind %v", o, told[i-1])
		}
	}
}

// expectTogether says if Depth is what Orders tells, by prices.
func expectTogether(t *testing.T, told []api.Order, depth []api.Level) {
	t.Helper()
	var want []api.Level
	for _, o := range told {
		if len(want) == 0 || want[len(want)-1].Price != o.Price {
			want = append(want, api.Level{Price: o.Price})
		}
		want[len(want)-1].Qty += o.Qty
		want[len(want)-1].Orders++
	}
	if !slices.Equal(depth, want) {
		t.Errorf("Depth is %v; Orders tells %v", depth, want)
	}
}

// expectFirstParts says if whoever comes from the other side faces a first part of what Orders tells: up to the limit, and no further.
func expectFirstParts(t *testing.T, b *book.Book, side api.Side, told []api.Order) {
	t.Helper()
	comer := api.Buy
	if side == api.Buy {
		comer = api.Sell
	}
	for _, o := range told {
		for limit := o.Price - 1; limit <= o.Price+1; limit++ {
			part := slices.Collect(b.Facing(comer, limit))
			if len(part) > len(told) || !slices.Equal(part, told[:len(part)]) {
				t.Errorf("Facing(%d, %d) tells %v; Orders %v", comer, limit, part, told)
			}
		}
	}
}

// call is one of a script: which number is put in, at which price, taken out, or made less.
type call struct {
	kind, id int
	side     api.Side
	at       int64
}

func (p pair) do(t *testing.T, c call) {
	t.Helper()
	switch c.kind {
	case 0:
		p.insert(t, order(c.id, c.id, c.side, c.at, int64(c.id)+1))
	case 1:
		p.remove(t, c.id)
	case 2:
		p.reduce(t, c.id, 1)
	}
}

// TestAllShortScripts puts three orders of both sides and of three prices in, takes them out and makes them less, in every order, four calls long, with room for little and for all.
func TestAllShortScripts(t *testing.T) {
	const length = 4
	var calls []call
	for id := 1; id <= 3; id++ {
		calls = append(calls, call{kind: 1, id: id})
		for at := int64(1); at <= 3; at++ {
			calls = append(calls, call{0, id, api.Sell, at})
		}
	}
	calls = append(calls, call{0, 1, api.Buy, 2}, call{0, 2, api.Buy, 1}, call{kind: 2, id: 1}, call{kind: 2, id: 2})
	scripts := 1
	for range length {
		scripts *= len(calls)
	}
	for script := range scripts {
		for _, shape := range []struct{ orders, levels int }{{2, 1}, {3, 2}} {
			p := paired(t, shape.orders, shape.levels)
			for at, rest := 0, script; at < length; at, rest = at+1, rest/len(calls) {
				p.do(t, calls[rest%len(calls)])
			}
			p.expectSame(t)
			if t.Failed() {
				t.Fatal("script", script, "shape", shape)
			}
		}
	}
}

// draw answers numbers that look drawn, and are the same each time.
func draw(from uint64) func(below int) int {
	return func(below int) int {
		from += 0x9e3779b97f4a7c15
		z := from
		z = (z ^ z>>30) * 0xbf58476d1ce4e5b9
		z = (z ^ z>>27) * 0x94d049bb133111eb
		return int((z ^ z>>31) % uint64(below))
	}
}

// anyNumber is one of the first few, or one at an edge of what may be or far beyond it.
func anyNumber(drawn func(int) int, few int) int64 {
	if drawn(20) > 0 {
		return int64(drawn(few)) + 1
	}
	edges := []int64{least, -1, 0, 1, api.MaxPrice, api.MaxPrice + 1, greatest}
	return edges[drawn(len(edges))]
}

// anyOrder is one that may rest, but for a field now and then.
func anyOrder(drawn func(int) int, ids, prices int) api.Order {
	o := order(int(anyNumber(drawn, ids)), drawn(8)+1, both[drawn(2)], anyNumber(drawn, prices), anyNumber(drawn, 9))
	switch drawn(40) {
	case 0:
		o.Client = 9 * drawn(2)
	case 1:
		o.Side = noSides[drawn(len(noSides))]
	}
	return o
}

// shape is what a book of drawn calls is, and of what they are: how many of ten put an order in.
type shape struct{ orders, levels, prices, inserts int }

func (p pair) anyCall(t *testing.T, drawn func(int) int, s shape) {
	t.Helper()
	ids := s.orders + s.orders/2 + 3
	switch k := drawn(10); {
	case k < s.inserts:
		p.insert(t, anyOrder(drawn, ids, s.prices))
	case k < 9:
		p.remove(t, int(anyNumber(drawn, ids)))
	default:
		p.reduce(t, int(anyNumber(drawn, ids)), anyNumber(drawn, 6))
	}
}

func TestDrawnCalls(t *testing.T) {
	for seed, s := range []shape{{0, 0, 2, 5}, {0, 3, 2, 5}, {4, 0, 2, 5}, {1, 1, 2, 5}, {3, 1, 3, 5}, {6, 2, 4, 6}, {12, 5, 6, 7}, {40, 8, 9, 8}, {60, 60, 40, 7}, {256, 128, 130, 8}} {
		p, drawn := paired(t, s.orders, s.levels), draw(uint64(seed))
		for step := range 1200 {
			p.anyCall(t, drawn, s)
			if s.orders < 40 || step%100 == 0 {
				expectFit(t, p.b, s.orders, s.levels)
				p.expectSame(t, anyNumber(drawn, s.prices), anyNumber(drawn, s.prices), least, -1, 0, api.MaxPrice+1, greatest)
			}
			if t.Failed() {
				t.Fatal("shape", s, "step", step)
			}
		}
	}
}

// What was told of an order holds as long as it stands there, and behind all that was ahead of it, whatever else comes and goes.
func TestAPlaceIsKept(t *testing.T) {
	b, drawn := made(t, 20, 6), draw(7)
	came := map[int]int{} // of each order that is there, when it was put in
	for step := range 3000 {
		id := drawn(30) + 1
		switch drawn(3) {
		case 0:
			if _, e := b.Remove(id); e == api.OK {
				delete(came, id)
			}
		case 1:
			b.Reduce(id, int64(drawn(5)))
		default:
			if b.Insert(order(id, id%8+1, both[drawn(2)], int64(drawn(4))+1, 20)) == api.OK {
				came[id] = step
			}
		}
		for _, side := range both {
			last := api.Order{}
			for o := range b.Orders(side) {
				if o.Price == last.Price && came[o.ID] < came[last.ID] {
					t.Fatalf("step %d: %v stands behind %v, and came first", step, o, last)
				}
				last = o
			}
		}
		if b.Len() != len(came) {
			t.Fatalf("step %d: Len is %d; %d orders are there", step, b.Len(), len(came))
		}
	}
}

// TestSideBySide drives books in turn: what is done to one is not seen in another (R4).
func TestSideBySide(t *testing.T) {
	s, drawn := shape{orders: 8, levels: 3, prices: 5, inserts: 6}, draw(99)
	books := []pair{paired(t, s.orders, s.levels), paired(t, s.orders, s.levels), paired(t, s.orders, s.levels)}
	for step := range 900 {
		books[step%len(books)].anyCall(t, drawn, s)
		for _, p := range books {
			p.expectSame(t, 2)
		}
		if t.Failed() {
			t.Fatal("step", step)
		}
	}
}

// What is refused leaves all as it was (T4, R8).
func TestRefusedIsNotDone(t *testing.T) {
	p := paired(t, 5, 2, order(1, 1, api.Sell, 10, 5), order(2, 2, api.Sell, 11, 6), order(3, 3, api.Buy, 9, 7), order(4, 4, api.Buy, 8, 8))
	refused := []api.Order{
		order(0, 1, api.Sell, 10, 1), order(5, 0, api.Sell, 10, 1), order(5, 9, api.Sell, 10, 1), order(5, 1, 0, 10, 1), order(5, 1, 3, 10, 1),
		order(5, 1, api.Sell, 0, 1), order(5, 1, api.Sell, api.MaxPrice+1, 1), order(5, 1, api.Sell, 10, 0), order(5, 1, api.Sell, 10, api.MaxQty+1),
		order(1, 1, api.Sell, 10, 5), order(1, 8, api.Buy, 9, 1), order(5, 1, api.Sell, 12, 1), order(5, 1, api.Buy, 7, 1), order(3, 1, api.Sell, 12, 1),
	}
	for range 2 { // with room for one more order, and without
		for _, o := range refused {
			if p.b.Insert(o) == api.OK {
				t.Errorf("Insert(%v) is done", o)
			}
			p.expectSame(t, 5, 7, 12)
		}
		for _, id := range []int{least, -1, 0, 7, 8, greatest} {
			expectRemove(t, p.b, id, api.Order{}, no)
			expectReduce(t, p.b, id, 1, no)
		}
		for _, by := range []int64{least, -1, 0, 5, 6, greatest} {
			expectReduce(t, p.b, 1, by, badQty)
		}
		p.expectSame(t, 5, 7, 12)
		p.insert(t, order(6, 6, api.Sell, 10, 9))
	}
}

// What is put in and taken out again leaves all as it was (T4): at a price that is there, and at one that is not.
func TestInAndOutAgain(t *testing.T) {
	for _, l := range [][]api.Order{
		nil,
		{order(1, 1, api.Sell, 10, 5)},
		{order(1, 1, api.Sell, 10, 5), order(2, 2, api.Buy, 10, 6), order(3, 3, api.Sell, 10, 7), order(4, 4, api.Sell, 12, 8)},
	} {
		p := paired(t, len(l)+1, 3, l...)
		for _, side := range both {
			for _, at := range []int64{1, 9, 10, 11, 12, 13, api.MaxPrice} {
				o := order(9, 1, side, at, 4)
				for range 2 {
					expectInsert(t, p.b, o, api.OK)
					expectReduce(t, p.b, 9, 1, api.OK)
					expectRemove(t, p.b, 9, order(9, 1, side, at, 3), api.OK)
					p.expectSame(t, 1, 9, 11, 13)
				}
			}
		}
	}
}
