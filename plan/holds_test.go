package plan_test

import (
	"fmt"
	"slices"
	"testing"

	"tripwire/api"
	"tripwire/book"
	"tripwire/plan"
)

// model is a book by the chapters' words alone: a list of orders as they came.
type model struct {
	orders, levels int
	there          []api.Order
}

func (m model) book(t *testing.T) *book.Book {
	t.Helper()
	return made(t, m.orders, m.levels, m.there...)
}

// but is the model from which some orders were taken out.
func (m model) but(ids ...int) model {
	m.there = slices.DeleteFunc(slices.Clone(m.there), func(o api.Order) bool { return slices.Contains(ids, o.ID) })
	return m
}

// facing are the orders that face an entry, by priority: the best one is looked for, and taken out of the list, till none is left.
func (m model) facing(e api.Entry) []api.Order {
	pool := slices.DeleteFunc(slices.Clone(m.there), func(o api.Order) bool {
		good := e.Price == 0 || e.Side == api.Buy && o.Price <= e.Price || e.Side == api.Sell && o.Price >= e.Price
		return o.Side == e.Side || !good
	})
	var l []api.Order
	for len(pool) > 0 {
		best := 0
		for i, o := range pool {
			if e.Side == api.Buy && o.Price < pool[best].Price || e.Side == api.Sell && o.Price > pool[best].Price {
				best = i
			}
		}
		l = append(l, pool[best])
		pool = slices.Delete(pool, best, best+1)
	}
	return l
}

// prices are the unlike ones of a side.
func (m model) prices(side api.Side) []int64 {
	var l []int64
	for _, o := range m.there {
		if o.Side == side && !slices.Contains(l, o.Price) {
			l = append(l, o.Price)
		}
	}
	return l
}

func mayBe(e api.Entry) bool {
	for _, holds := range []bool{
		e.Kind == 1 || e.Kind == 2 || e.Kind == 3 || e.Kind == 4 || e.Kind == 5,
		e.Side == 1 || e.Side == 2,
		1 <= e.Client && e.Client <= 8,
		1 <= e.Qty && e.Qty <= 1000000000,
		e.Kind != 2 && 1 <= e.Price && e.Price <= 1000000000 || e.Kind == 2 && e.Price == 0,
	} {
		if !holds {
			return false
		}
	}
	return true
}

// of is what Of is to tell, in the order of the chapter's words: what room there is, is counted in a book from which those are taken that go.
func (m model) of(e api.Entry) (api.Plan, api.Errno) {
	if !mayBe(e) {
		return api.Plan{}, wrong
	}
	facing, others := m.facing(e), int64(0)
	for _, o := range facing {
		if o.Client != e.Client {
			others += o.Qty
		}
	}
	switch {
	case e.Kind == api.Post && len(facing) > 0:
		return api.Plan{}, cross
	case e.Kind == api.All && others < e.Qty:
		return api.Plan{}, kill
	}
	p, gone := api.Plan{Traded: min(others, e.Qty)}, []int(nil)
	for left := e.Qty; len(facing) > 0 && left > 0; facing = facing[1:] {
		o := facing[0]
		h := api.Hit{ID: o.ID, Price: o.Price, Own: o.Client == e.Client, Qty: o.Qty}
		if !h.Own {
			h.Qty = min(o.Qty, left)
			left -= h.Qty
		}
		if h.Qty == o.Qty {
			gone = append(gone, o.ID)
		}
		p.Hits = append(p.Hits, h)
	}
	if e.Kind != api.Limit && e.Kind != api.Post {
		p.Gone = e.Qty - p.Traded
		return p, api.OK
	}
	p.Rests = e.Qty - p.Traded
	if p.Rests > 0 {
		if no := m.but(gone...).fits(e); no != api.OK {
			return api.Plan{}, no
		}
	}
	return p, api.OK
}

// fits tells what forbids that an entry rests in a book as it is.
func (m model) fits(e api.Entry) api.Errno {
	prices := m.prices(e.Side)
	switch {
	case len(m.there) == m.orders:
		return full
	case !slices.Contains(prices, e.Price) && len(prices) == m.levels:
		return noPrice
	}
	return api.OK
}

// amend is what Amend is to tell: of a book from which the order was taken out.
func (m model) amend(id int, price, qty int64) (api.Plan, api.Errno) {
	i := slices.IndexFunc(m.there, func(o api.Order) bool { return o.ID == id })
	switch {
	case i == -1:
		return api.Plan{}, no
	case price < 1 || price > 1000000000 || qty < 1 || qty > 1000000000:
		return api.Plan{}, wrong
	}
	return m.but(id).of(entry(m.there[i].Client, api.Limit, m.there[i].Side, price, qty))
}

func (m model) expectOf(t *testing.T, b *book.Book, e api.Entry) {
	t.Helper()
	want, wantErr := m.of(e)
	if p, no := plan.Of(b, e); !same(p, want) || no != wantErr {
		t.Errorf("%+v: Of(%+v) is %+v, %d; want %+v, %d", m, e, p, no, want, wantErr)
	}
}

func (m model) expectAmend(t *testing.T, b *book.Book, id int, price, qty int64) {
	t.Helper()
	want, wantErr := m.amend(id, price, qty)
	if p, no := plan.Amend(b, id, price, qty); !same(p, want) || no != wantErr {
		t.Errorf("%+v: Amend(%d, %d, %d) is %+v, %d; want %+v, %d", m, id, price, qty, p, no, want, wantErr)
	}
}

// told is all that a book answers, as a text: to each of its calls, of its orders and of some numbers beside them.
func told(b *book.Book) string {
	s := fmt.Sprintln(b.Len(), b.Room())
	for _, side := range []api.Side{0, api.Buy, api.Sell, 3} {
		s += fmt.Sprintln(side, b.Best(side), b.Prices(side), b.Depth(side, 1), b.Depth(side, api.MaxLevels), slices.Collect(b.Orders(side)))
		limits := []int64{-1, 0, 1, api.MaxPrice, api.MaxPrice + 1}
		for _, l := range b.Depth(side, 5) {
			limits = append(limits, l.Price-1, l.Price, l.Price+1)
		}
		for _, limit := range limits {
			s += fmt.Sprintln(limit, slices.Collect(b.Facing(side, limit)), b.Fits(side, limit))
		}
		for o := range b.Orders(side) {
			s += fmt.Sprintln(b.Get(o.ID))
		}
	}
	for client := range api.MaxClients + 2 {
		s += fmt.Sprintln(b.Open(client))
	}
	return s
}

// expectUnchanged says if a book that plans were made of, and one of which none was, answer alike: to what is asked, and to what is done from here on.
func expectUnchanged(t *testing.T, b, other *book.Book) {
	t.Helper()
	if told(b) != told(other) {
		t.Errorf("the book is\n%s; want\n%s", told(b), told(other))
	}
	for id := 1; id <= 300; id += 7 {
		for _, side := range both {
			o := order(id, id%8+1, side, int64(id%5)+1, 9)
			if got, want := b.Insert(o), other.Insert(o); got != want {
				t.Errorf("Insert(%v) is %d; want %d", o, got, want)
			}
		}
		if got, want := b.Reduce(id, 2), other.Reduce(id, 2); got != want {
			t.Errorf("Reduce(%d, 2) is %d; want %d", id, got, want)
		}
	}
	for id := 1; id <= 300; id += 3 {
		got, gotErr := b.Remove(id)
		if want, wantErr := other.Remove(id); got != want || gotErr != wantErr {
			t.Errorf("Remove(%d) is %v, %d; want %v, %d", id, got, gotErr, want, wantErr)
		}
	}
	if told(b) != told(other) {
		t.Errorf("behind some calls the book is\n%s; want\n%s", told(b), told(other))
	}
}

// smallBooks goes through the books of three orders at the most, of two clients, two sides, prices of 1 to 3, with room for little and for all.
func smallBooks(do func(m model)) {
	kinds := 2*2*3 + 1
	for n := range kinds * kinds * kinds {
		var l []api.Order
		for i, rest := 0, n; i < 3; i, rest = i+1, rest/kinds {
			if k := rest % kinds; k > 0 {
				l = append(l, order(i+1, (k-1)%2+1, both[(k-1)/2%2], int64((k-1)/4)+1, int64(i)%2+1))
			}
		}
		m := model{len(l), 3, l}
		do(m)
		m.levels = max(len(m.prices(api.Buy)), len(m.prices(api.Sell)))
		do(m)
		m.orders++
		do(m)
	}
}

// TestAllSmallBooks asks about all small entries, and amends of all orders, of all small books.
func TestAllSmallBooks(t *testing.T) {
	smallBooks(func(m model) {
		b := m.book(t)
		for _, kind := range kinds {
			for _, side := range both {
				for price := int64(1); price <= 4; price++ {
					for qty := int64(1); qty <= 5; qty++ {
						m.expectOf(t, b, entry(1, kind, side, asked(kind, price), qty))
					}
				}
			}
		}
		for id := range 5 {
			for price := int64(0); price <= 4; price++ {
				for qty := int64(0); qty <= 4; qty++ {
					m.expectAmend(t, b, id, price, qty)
				}
			}
		}
		if t.Failed() {
			t.Fatal("book", m)
		}
	})
}

// TestAllSmallEntries asks about every entry of small numbers, those that may be and those that may not, of a few books.
func TestAllSmallEntries(t *testing.T) {
	for _, m := range []model{{0, 0, nil}, {2, 1, nil}, {4, 2, three()}, {3, 2, three()}, {4, 2, three(order(4, 2, api.Buy, 8, 1))}, {5, 3, three(order(4, 2, api.Buy, 2, 1), order(5, 3, api.Sell, 1, 2))}} {
		b := m.book(t)
		for client := -1; client <= 10; client++ {
			for kind := range api.Kind(8) {
				for side := range api.Side(5) {
					for price := int64(-1); price <= 12; price++ {
						for qty := int64(-1); qty <= 16; qty++ {
							m.expectOf(t, b, entry(client, kind, side, price, qty))
						}
					}
				}
			}
		}
		expectUnchanged(t, b, m.book(t))
		if t.Failed() {
			t.Fatal("book", m)
		}
	}
}

// draw answers numbers that look drawn, and are the same each time.
func draw(from uint64) func(below int) int {
	return func(below int) int {
		from += 0x9e3779b97f4a7c15
		z := from
		z = (z ^ z>>30) * 0xbf58476d1ce4e5b9
		z = (z ^ z>>27) * 0x94d049bb133111eb
		return int((z ^ z>>31) % uint64(below))
	}
}

// shape is what books are drawn of: room, how many orders, how many unlike prices, clients, and how much each order has.
type shape struct{ orders, levels, count, prices, clients, most int }

var shapes = []shape{
	{4, 2, 4, 3, 2, 5}, {6, 3, 6, 5, 3, 4}, {8, 2, 8, 6, 2, 3}, {12, 12, 10, 12, 3, 9}, {20, 5, 20, 8, 8, 30},
	{40, 40, 40, 40, 4, 50}, {256, 128, 256, 128, 8, 6}, {256, 128, 200, 9, 3, api.MaxQty}, {10, 10, 10, api.MaxPrice, 2, api.MaxQty},
}

// anyBook is one of a shape; of what has no room, nothing is in it.
func anyBook(t *testing.T, drawn func(int) int, s shape) model {
	t.Helper()
	b, m := made(t, s.orders, s.levels), model{orders: s.orders, levels: s.levels}
	for i := range s.count {
		o := order(1+3*(i*7%s.count), 1+drawn(s.clients), both[drawn(2)], int64(1+drawn(s.prices)), int64(1+drawn(s.most)))
		if b.Insert(o) == api.OK {
			m.there = append(m.there, o)
		}
	}
	return m
}

// anyNumber is one of the first few, or, now and then, one at an edge of what may be or far beyond it.
func anyNumber(drawn func(int) int, few int) int64 {
	if drawn(25) > 0 {
		return int64(1 + drawn(few))
	}
	edges := []int64{least, -1, 0, 1, api.MaxPrice, api.MaxPrice + 1, greatest}
	return edges[drawn(len(edges))]
}

// anyEntry is one that may be, but for a field now and then.
func anyEntry(drawn func(int) int, s shape) api.Entry {
	e := entry(1+drawn(s.clients), kinds[drawn(5)], both[drawn(2)], anyNumber(drawn, min(s.prices+1, api.MaxPrice)), anyNumber(drawn, min(1+s.most*(1+drawn(s.count)), api.MaxQty)))
	e.Price = asked(e.Kind, e.Price)
	switch drawn(60) {
	case 0:
		e.Client = 9 * drawn(2)
	case 1:
		e.Side = noSides[drawn(len(noSides))]
	case 2:
		e.Kind = noKinds[drawn(len(noKinds))]
	}
	return e
}

func TestDrawnBooks(t *testing.T) {
	for seed, s := range shapes {
		drawn := draw(uint64(seed))
		for range 5 + 400/s.count {
			m := anyBook(t, drawn, s)
			b := m.book(t)
			for range 60 {
				m.expectOf(t, b, anyEntry(drawn, s))
				m.expectAmend(t, b, int(anyNumber(drawn, 3*s.count)), anyNumber(drawn, min(s.prices+1, api.MaxPrice)), anyNumber(drawn, min(3*s.most, api.MaxQty)))
			}
			expectUnchanged(t, b, m.book(t))
			if t.Failed() {
				t.Fatal("shape", s)
			}
		}
	}
}

// expectSums is the chapter's first row of 'What holds'.
func expectSums(t *testing.T, e api.Entry, p api.Plan) {
	t.Helper()
	if p.Traded+p.Rests+p.Gone != e.Qty || p.Rests > 0 && p.Gone > 0 || p.Traded < 0 || p.Rests < 0 || p.Gone < 0 {
		t.Errorf("%+v: Traded, Rests and Gone are %d, %d, %d", e, p.Traded, p.Rests, p.Gone)
	}
	if rests := e.Kind == api.Limit || e.Kind == api.Post; rests && p.Gone > 0 || !rests && p.Rests > 0 || e.Kind == api.All && p.Gone > 0 {
		t.Errorf("%+v: Rests %d, Gone %d", e, p.Rests, p.Gone)
	}
}

// expectFirstPart is the second row: against what the book's own Facing tells.
func expectFirstPart(t *testing.T, b *book.Book, e api.Entry, p api.Plan) {
	t.Helper()
	traded, spent := int64(0), false
	facing := slices.Collect(b.Facing(e.Side, e.Price))
	if len(p.Hits) > len(facing) {
		t.Fatalf("%+v: %d hits of %d that face it", e, len(p.Hits), len(facing))
	}
	for i, h := range p.Hits {
		o := facing[i]
		if spent {
			t.Errorf("%+v: %+v is met, when nothing is left", e, h)
		}
		if h.ID != o.ID || h.Price != o.Price || h.Own != (o.Client == e.Client) || h.Qty < 1 || h.Qty > o.Qty || h.Own && h.Qty != o.Qty {
			t.Errorf("%+v: %+v of %+v", e, h, o)
		}
		if !h.Own {
			traded += h.Qty
			spent = traded == e.Qty
		}
		if h.Qty < o.Qty && i < len(p.Hits)-1 {
			t.Errorf("%+v: %+v of %+v is not the last one", e, h, o)
		}
	}
	if !spent && len(p.Hits) < len(facing) {
		t.Errorf("%+v: %d of %d are met, and something is left", e, len(p.Hits), len(facing))
	}
	if traded != p.Traded {
		t.Errorf("%+v: Traded is %d; the hits come to %d", e, p.Traded, traded)
	}
}

// expectWorthOf adds price by price, lot by lot where it is few lots, and holds the sum against Worth's.
func expectWorthOf(t *testing.T, p api.Plan) {
	t.Helper()
	sum := 0.0
	for _, h := range p.Hits {
		if !h.Own {
			sum += float64(h.Price) * float64(h.Qty)
		}
	}
	n, is := plan.Worth(p)
	if is != (sum < 1<<63) || is && (float64(n)-sum > sum/1e9 || sum-float64(n) > sum/1e9) {
		t.Errorf("Worth(%+v) is %d, %t; want about %g", p, n, is, sum)
	}
	if sum < 1<<50 && float64(n) != sum {
		t.Errorf("Worth(%+v) is %d; want %g", p, n, sum)
	}
}

// done does to a book what a plan of an entry says; the order that came has a number of its own. What the book says to the rest at last is told.
func done(t *testing.T, b *book.Book, id int, e api.Entry, p api.Plan) api.Errno {
	t.Helper()
	for _, h := range p.Hits {
		o, is := b.Get(h.ID)
		switch {
		case !is:
			t.Errorf("%+v: there is no order %d", e, h.ID)
		case h.Qty == o.Qty:
			b.Remove(h.ID)
		default:
			if no := b.Reduce(h.ID, h.Qty); no != api.OK {
				t.Errorf("%+v: Reduce(%d, %d) is %d", e, h.ID, h.Qty, no)
			}
		}
	}
	if p.Rests == 0 {
		return api.OK
	}
	return b.Insert(order(id, e.Client, e.Side, e.Price, p.Rests))
}

// A plan that is told can be done; one that is refused for want of room could not be; and behind one that is done nobody that faced the entry is left, if something of it was (T4, T5).
func TestAPlanCanBeDone(t *testing.T) {
	counts := map[api.Errno]int{}
	for seed, s := range shapes {
		drawn := draw(uint64(100 + seed))
		for range 20 + 1600/s.count {
			m := anyBook(t, drawn, s)
			b, e := m.book(t), anyEntry(drawn, s)
			was := told(b)
			p, no := plan.Of(b, e)
			counts[no]++
			if told(b) != was {
				t.Fatalf("%+v: the book has changed by a plan", e)
			}
			switch no {
			case api.OK:
				expectSums(t, e, p)
				expectFirstPart(t, b, e, p)
				expectWorthOf(t, p)
				if got := done(t, b, 1000, e, p); got != api.OK {
					t.Errorf("%+v: what rests is refused: %d", e, got)
				}
				if p.Rests+p.Gone > 0 {
					for o := range b.Facing(e.Side, e.Price) {
						t.Errorf("%+v: %+v still faces it", e, o)
					}
				}
			case full, noPrice:
				e.Kind = api.Now // what a Limit one does, without what rests of it
				p, _ = plan.Of(b, e)
				p.Rests, p.Gone = p.Gone, 0
				if got := done(t, b, 1000, e, p); got != no {
					t.Errorf("%+v: is refused by %d, would be by %d", e, no, got)
				}
			}
			if t.Failed() {
				t.Fatal("shape", s, "book", m)
			}
		}
	}
	for _, no := range []api.Errno{api.OK, wrong, full, noPrice, cross, kill} {
		if counts[no] < 10 {
			t.Errorf("only %d of the answers are %d", counts[no], no)
		}
	}
}

// Amend is Of of a book from which the order was taken out, in truth.
func TestAmendIsOfWithoutTheOrder(t *testing.T) {
	counts := map[api.Errno]int{}
	for seed, s := range shapes {
		drawn := draw(uint64(200 + seed))
		for range 5 + 400/s.count {
			m := anyBook(t, drawn, s)
			b, price, qty := m.book(t), anyNumber(drawn, min(s.prices+1, api.MaxPrice)), anyNumber(drawn, min(3*s.most, api.MaxQty))
			for _, o := range m.there[:min(len(m.there), 20)] {
				without := m.but(o.ID).book(t)
				e := entry(o.Client, api.Limit, o.Side, price, qty)
				want, wantErr := plan.Of(without, e)
				p, no := plan.Amend(b, o.ID, price, qty)
				counts[no]++
				if !same(p, want) || no != wantErr {
					t.Fatalf("%+v: Amend(%d, %d, %d) is %+v, %d; want %+v, %d", m, o.ID, price, qty, p, no, want, wantErr)
				}
				if no != api.OK {
					continue
				}
				expectSums(t, e, p)
				expectFirstPart(t, b, e, p)
				expectWorthOf(t, p)
				if got := done(t, without, o.ID, e, p); got != api.OK {
					t.Errorf("%+v: what rests of %+v is refused: %d", e, o, got)
				}
			}
			expectUnchanged(t, b, m.book(t))
			if t.Failed() {
				t.Fatal("shape", s, "book", m)
			}
		}
	}
	for _, no := range []api.Errno{api.OK, wrong, noPrice} {
		if counts[no] < 10 {
			t.Errorf("only %d of the answers are %d", counts[no], no)
		}
	}
	if counts[full] > 0 {
		t.Errorf("%d amends have no room for an order", counts[full])
	}
}

// Of one book and one entry a plan is always the same: asked again, of another book like it, and while the book is gone through (R10).
func TestAPlanIsAlwaysTheSame(t *testing.T) {
	m := model{6, 3, three(order(4, 2, api.Buy, 8, 1), order(5, 3, api.Buy, 9, 2))}
	b, drawn := m.book(t), draw(5)
	for range 300 {
		e := anyEntry(drawn, shape{6, 3, 4, 12, 3, 5})
		want, wantErr := plan.Of(b, e)
		for o := range b.Facing(e.Side, e.Price) {
			if p, no := plan.Of(b, e); !same(p, want) || no != wantErr {
				t.Fatalf("at %+v: Of(%+v) is %+v, %d; want %+v, %d", o, e, p, no, want, wantErr)
			}
			m.expectAmend(t, b, o.ID, o.Price, 3)
		}
		if p, no := plan.Of(m.book(t), e); !same(p, want) || no != wantErr {
			t.Fatalf("Of(%+v) of another book is %+v, %d; want %+v, %d", e, p, no, want, wantErr)
		}
	}
	expectUnchanged(t, b, m.book(t))
}

// What is refused leaves all as it was, and the next call is answered as if nothing had been asked (T4, R8).
func TestRefusedIsNotDone(t *testing.T) {
	m := model{4, 2, three(order(4, 2, api.Buy, 8, 1))}
	b := m.book(t)
	fine := entry(3, api.Limit, api.Buy, 10, 11)
	for _, refused := range []api.Entry{
		{}, entry(9, api.Limit, api.Buy, 10, 1), entry(3, api.Market, api.Buy, 10, 1), entry(3, api.Limit, api.Buy, 10, 0), entry(3, api.Post, api.Buy, 10, 1), entry(1, api.Post, api.Sell, 8, 1),
		entry(3, api.All, api.Buy, 10, 11), entry(3, api.Limit, api.Buy, 9, 1), entry(3, api.Limit, api.Sell, 8, 2),
	} {
		if _, no := plan.Of(b, refused); no == api.OK {
			t.Errorf("Of(%+v) is OK", refused)
		}
		m.expectOf(t, b, fine)
	}
	for _, id := range []int{-1, 0, 5, greatest} {
		expectNoAmend(t, b, id, 10, 1, no)
	}
	expectNoAmend(t, b, 1, 0, 1, wrong)
	expectNoAmend(t, b, 1, 12, 1, noPrice)
	m.expectAmend(t, b, 3, 12, 1)
	expectUnchanged(t, b, m.book(t))
}
