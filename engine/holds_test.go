package engine_test

import (
	"slices"
	"testing"

	"tripwire/api"
	"tripwire/book"
	"tripwire/engine"
)

// market is an engine by the document's words alone: a list of orders as they came. A call is done to a copy, which is thrown away where it is refused.
type market struct {
	c            api.Config
	there        []api.Order
	last, volume int64
	ids          int
}

func (m *market) copied() *market {
	n := *m
	n.there = slices.Clone(m.there)
	return &n
}

func (m *market) find(id int) int {
	return slices.IndexFunc(m.there, func(o api.Order) bool { return o.ID == id })
}

// best is the place of the order of a side that has priority among those of which a test holds; -1: there is none.
func (m *market) best(side api.Side, holds func(api.Order) bool) int {
	best := -1
	for i, o := range m.there {
		if o.Side != side || !holds(o) {
			continue
		}
		if best < 0 || side == api.Buy && o.Price > m.there[best].Price || side == api.Sell && o.Price < m.there[best].Price {
			best = i
		}
	}
	return best
}

// faces says if an order is as good as an entry asks.
func faces(x api.Entry) func(api.Order) bool {
	return func(o api.Order) bool {
		return x.Kind == api.Market || x.Side == api.Buy && o.Price <= x.Price || x.Side == api.Sell && o.Price >= x.Price
	}
}

func (m *market) top() api.Top {
	any := func(api.Order) bool { return true }
	t := api.Top{Last: m.last, Volume: m.volume}
	if i := m.best(api.Buy, any); i >= 0 {
		t.Bid = m.there[i].Price
	}
	if i := m.best(api.Sell, any); i >= 0 {
		t.Ask = m.there[i].Price
	}
	return t
}

func (m *market) orders() []api.Order {
	var l []api.Order
	for _, side := range both {
		for n := m.copied(); ; {
			i := n.best(side, func(api.Order) bool { return true })
			if i < 0 {
				break
			}
			l = append(l, n.there[i])
			n.there = slices.Delete(n.there, i, i+1)
		}
	}
	return l
}

// open is how many orders of a client there are, and how much is open of these.
func (m *market) open(client int) (int, int64) {
	count, lots := 0, int64(0)
	for _, o := range m.there {
		if o.Client == client {
			count++
			lots += o.Qty
		}
	}
	return count, lots
}

// is says if an engine tells of itself what the model does.
func (m *market) is(e *engine.Engine) bool {
	for client := range api.MaxClients + 2 {
		count, lots := e.Open(client)
		if wantCount, wantLots := m.open(client); count != wantCount || lots != wantLots {
			return false
		}
	}
	return e.Top() == m.top() && e.IDs() == m.ids && slices.Equal(e.Orders(), m.orders())
}

// numbers tells what the rules say to a quantity and a price.
func (m *market) numbers(qty, price int64, priceless bool) api.Errno {
	r := m.c.Rules
	switch {
	case qty < 1 || qty > r.Most || qty%r.Lot != 0:
		return badQty
	case priceless && price != 0, !priceless && (price < r.Low || price > r.High || price%r.Tick != 0):
		return badPrice
	}
	return api.OK
}

func (m *market) rules(x api.Entry) api.Errno {
	switch {
	case x.Client < 1 || x.Client > m.c.Rules.Clients:
		return noClient
	case !slices.Contains(kinds, x.Kind):
		return badKind
	case !slices.Contains(both, x.Side):
		return badSide
	}
	return m.numbers(x.Qty, x.Price, x.Kind == api.Market)
}

// come lets an order meet whom it meets, and rest or go; then it tells what forbids that.
func (m *market) come(id int, x api.Entry) ([]api.Event, api.Errno) {
	var l []api.Event
	left := x.Qty
	for left > 0 {
		i := m.best(other(x.Side), faces(x))
		if i < 0 {
			break
		}
		o := &m.there[i]
		if o.Client == x.Client {
			l = append(l, yielded(o.ID, id, o.Client, o.Side, o.Price, o.Qty))
			m.there = slices.Delete(m.there, i, i+1)
			continue
		}
		n := min(left, o.Qty)
		l = append(l, traded(id, o.ID, x.Client, o.Client, x.Side, o.Price, n))
		m.last, m.volume = o.Price, m.volume+n
		left -= n
		if o.Qty -= n; o.Qty == 0 {
			m.there = slices.Delete(m.there, i, i+1)
		}
	}
	rests := x.Kind == api.Limit || x.Kind == api.Post
	switch {
	case x.Kind == api.Post && len(l) > 0:
		return nil, cross
	case x.Kind == api.All && left > 0:
		return nil, kill
	case left > 0 && rests:
		if no := m.room(x.Side, x.Price); no != api.OK {
			return nil, no
		}
		m.there = append(m.there, order(id, x.Client, x.Side, x.Price, left))
		l = append(l, event(api.Rested, id, x.Client, x.Side, x.Price, left))
	case left > 0:
		l = append(l, event(api.Dropped, id, x.Client, x.Side, x.Price, left))
	}
	if m.volume > m.c.Volume {
		return nil, tooMuch
	}
	return l, api.OK
}

// room tells what forbids that an order is put in.
func (m *market) room(side api.Side, price int64) api.Errno {
	prices := map[int64]int{}
	for _, o := range m.there {
		if o.Side == side {
			prices[o.Price]++
		}
	}
	switch {
	case len(m.there) >= m.c.Orders:
		return full
	case prices[price] == 0 && len(prices) >= m.c.Levels:
		return noPrice
	}
	return api.OK
}

func (m *market) enter(x api.Entry) (int, []api.Event, api.Errno) {
	if no := m.rules(x); no != api.OK {
		return 0, nil, no
	}
	if m.ids >= m.c.IDs {
		return 0, nil, noNumber
	}
	n := m.copied()
	n.ids++
	l, no := n.come(n.ids, x)
	if no != api.OK {
		return 0, nil, no
	}
	*m = *n
	return m.ids, append([]api.Event{event(api.Accepted, m.ids, x.Client, x.Side, x.Price, x.Qty)}, l...), api.OK
}

func (m *market) owned(client, id int) api.Errno {
	switch i := m.find(id); {
	case i < 0:
		return noOrder
	case m.there[i].Client != client:
		return notOwn
	}
	return api.OK
}

func (m *market) amend(client, id int, price, qty int64) ([]api.Event, api.Errno) {
	if no := m.owned(client, id); no != api.OK {
		return nil, no
	}
	if no := m.numbers(qty, price, false); no != api.OK {
		return nil, no
	}
	i := m.find(id)
	o := m.there[i]
	switch {
	case price == o.Price && qty == o.Qty:
		return nil, unmoved
	case price == o.Price && qty < o.Qty:
		m.there[i].Qty = qty
		return []api.Event{changed(api.Reduced, id, client, o.Side, price, qty, o.Qty)}, api.OK
	}
	n := m.copied()
	n.there = slices.Delete(n.there, i, i+1)
	l, no := n.come(id, limit(client, o.Side, price, qty))
	if no != api.OK {
		return nil, no
	}
	*m = *n
	return append([]api.Event{changed(api.Amended, id, client, o.Side, price, qty, o.Qty)}, l...), api.OK
}

func (m *market) cancel(client, id int) ([]api.Event, api.Errno) {
	if no := m.owned(client, id); no != api.OK {
		return nil, no
	}
	i := m.find(id)
	o := m.there[i]
	m.there = slices.Delete(m.there, i, i+1)
	return []api.Event{event(api.Withdrawn, id, client, o.Side, o.Price, o.Qty)}, api.OK
}

// call is one of the three that change an engine: an entry, or an amend (change), or a cancel.
type call struct {
	x      api.Entry
	change bool
	id     int // 0: an entry
}

// answer is what one of them answers.
type answer struct {
	id int
	l  []api.Event
	no api.Errno
}

func (a answer) is(b answer) bool {
	return a.id == b.id && a.no == b.no && slices.Equal(a.l, b.l)
}

// caller is an engine, or the model of one.
type caller struct {
	enter  func(api.Entry) (int, []api.Event, api.Errno)
	amend  func(int, int, int64, int64) ([]api.Event, api.Errno)
	cancel func(int, int) ([]api.Event, api.Errno)
}

func (c caller) ask(do call) answer {
	var a answer
	switch {
	case do.id == 0:
		a.id, a.l, a.no = c.enter(do.x)
	case do.change:
		a.l, a.no = c.amend(do.x.Client, do.id, do.x.Price, do.x.Qty)
	default:
		a.l, a.no = c.cancel(do.x.Client, do.id)
	}
	return a
}

func askEngine(e *engine.Engine, do call) answer {
	return caller{e.Enter, e.Amend, e.Cancel}.ask(do)
}

func askModel(m *market, do call) answer {
	return caller{m.enter, m.amend, m.cancel}.ask(do)
}

// expectSame asks both the same, and holds against each other what they answer, and what can be asked of them from there on.
func expectSame(t *testing.T, e *engine.Engine, m *market, do call) answer {
	t.Helper()
	a, want := askEngine(e, do), askModel(m, do)
	if !a.is(want) {
		t.Fatalf("%+v: %+v is %+v; want %+v; then there is %+v", m.c, do, a, want, m)
	}
	if !m.is(e) {
		t.Fatalf("behind %+v there is\n%s; want %+v", do, told(e), m)
	}
	return a
}

// smallCalls are all calls of two clients with prices and quantities of 1 and 2, and a bit beyond, of orders 1 to 4.
func smallCalls() []call {
	var l []call
	for client := 1; client <= 2; client++ {
		for price := int64(1); price <= 2; price++ {
			for qty := int64(1); qty <= 4; qty++ {
				for _, side := range both {
					for _, kind := range kinds {
						l = append(l, call{x: entry(client, kind, side, asked(kind, price), qty)})
					}
				}
				for id := 1; id <= 4 && qty <= 3; id++ {
					l = append(l, call{x: limit(client, 0, price, qty), change: true, id: id})
				}
			}
		}
		for id := 1; id <= 4; id++ {
			l = append(l, call{x: api.Entry{Client: client}, id: id})
		}
	}
	return l
}

// TestAllShortScripts asks every small call of every engine behind three small entries, in markets of little room and of enough.
func TestAllShortScripts(t *testing.T) {
	calls := smallCalls()
	for _, sizes := range [][4]int{{4, 2, 100, 100}, {3, 2, 2, 100}, {2, 1, 3, 4}, {3, 1, 100, 3}} {
		c := config()
		c.Orders, c.Levels, c.Volume, c.IDs = sizes[0], sizes[1], int64(sizes[2]), sizes[3]
		for n := range 8 * 8 * 8 {
			in := []api.Entry{smallEntry(n%8, 1), smallEntry(n/8%8, 2), smallEntry(n/64, 1)}
			e, m := made(t, c), &market{c: c}
			for _, x := range in {
				expectSame(t, e, m, call{x: x})
			}
			for _, do := range calls {
				if a := expectSame(t, e, m, do); a.no != api.OK {
					continue // nothing has changed
				}
				e, m = made(t, c), &market{c: c}
				for _, x := range in {
					e.Enter(x)
					m.enter(x)
				}
			}
		}
	}
}

// smallEntry is a Limit one: which says of whom, on which side, at which price.
func smallEntry(which int, qty int64) api.Entry {
	return limit(1+which%2, both[which/2%2], int64(1+which/4), qty)
}

// draw answers numbers that look drawn, and are the same each time.
func draw(from uint64) func(below int) int {
	return func(below int) int {
		from += 0x9e3779b97f4a7c15
		z := from
		z = (z ^ z>>30) * 0xbf58476d1ce4e5b9
		z = (z ^ z>>27) * 0x94d049bb133111eb
		return int((z ^ z>>31) % uint64(below))
	}
}

// shape is what scripts are drawn of: a market, and how many calls.
type shape struct {
	c     api.Config
	calls int
}

func shapes() []shape {
	market := func(clients int, tick, lot, high, most int64, orders, levels int, volume int64, ids int) api.Config {
		return api.Config{Rules: api.Rules{Clients: clients, Tick: tick, Lot: lot, Low: tick, High: high, Most: most}, Orders: orders, Levels: levels, Volume: volume, IDs: ids}
	}
	return []shape{
		{market(2, 1, 1, 4, 5, 4, 2, 60, 100), 150},
		{market(3, 1, 1, 6, 9, 6, 3, 100000, 1000), 300},
		{market(3, 5, 10, 40, 90, 8, 2, 800, 60), 300},
		{market(8, 1, 1, 12, 30, 20, 5, 100000, 1000), 400},
		{market(8, 1, 1, 300, 100, 256, 128, api.MaxVolume, api.MaxIDs), 700},
		{market(4, 1, 1, 6, api.MaxQty, 40, 3, 30*api.MaxQty, 1000), 400},
		{market(1, 1, 1, 6, 5, 6, 3, 0, 1000), 200},
		{market(2, 1, 1, api.MaxPrice, api.MaxQty, 6, 3, api.MaxVolume, 1000), 200},
	}
}

// anyNumber is a multiple of a step up to the most, or, now and then, one at an edge or beyond it.
func anyNumber(drawn func(int) int, step, most int64) int64 {
	if drawn(30) > 0 {
		return step * int64(1+drawn(int(most/step)))
	}
	edges := []int64{least, -1, 0, 1, step - 1, step + 1, most, most + step, greatest}
	return edges[drawn(len(edges))]
}

// anyCall is one that may be, but for a field now and then; orders that are open are asked for more often than others.
func anyCall(drawn func(int) int, m *market) call {
	r := m.c.Rules
	x := entry(1+drawn(r.Clients), kinds[drawn(5)], both[drawn(2)], anyNumber(drawn, r.Tick, r.High), anyNumber(drawn, r.Lot, r.Most))
	if drawn(3) > 0 {
		x.Kind = api.Limit
	}
	x.Price = asked(x.Kind, x.Price)
	switch drawn(60) {
	case 0:
		x.Client = []int{-1, 0, r.Clients + 1, 9}[drawn(4)]
	case 1:
		x.Side = noSides[drawn(len(noSides))]
	case 2:
		x.Kind = noKinds[drawn(len(noKinds))]
	}
	do := call{x: x, change: drawn(4) > 0}
	if drawn(5) < 3 {
		return do
	}
	do.id = -1 + drawn(m.ids+3)
	if do.id == 0 {
		do.id = 1
	}
	if len(m.there) > 0 && drawn(12) > 0 {
		o := m.there[drawn(len(m.there))]
		do.id = o.ID
		if drawn(12) > 0 {
			do.x.Client = o.Client
		}
		if drawn(3) == 0 {
			do.x.Price = o.Price
		}
		if drawn(9) == 0 {
			do.x.Qty = o.Qty
		}
	}
	return do
}

// expectApart is the chapter's first row of 'What holds', its first half.
func expectApart(t *testing.T, e *engine.Engine) {
	t.Helper()
	if top := e.Top(); top.Bid > 0 && top.Ask > 0 && top.Bid >= top.Ask {
		t.Fatalf("the best Buy price is %d, the best Sell price %d", top.Bid, top.Ask)
	}
}

// expectPriority is its second half: whom a call meets are the first of those that stood on the other side, nobody passed over; its own yield, others trade at their own prices.
func expectPriority(t *testing.T, was []api.Order, l []api.Event) {
	t.Helper()
	if len(l) == 0 || l[0].What != api.Accepted && l[0].What != api.Amended {
		return
	}
	facing := slices.DeleteFunc(slices.Clone(was), func(o api.Order) bool { return o.Side == l[0].Side })
	for i, x := range l[1:] {
		if x.What == api.Rested || x.What == api.Dropped {
			break
		}
		o := facing[i]
		want := traded(l[0].ID, o.ID, l[0].Client, o.Client, l[0].Side, o.Price, x.Qty)
		if o.Client == l[0].Client {
			want = yielded(o.ID, l[0].ID, o.Client, o.Side, o.Price, o.Qty)
		}
		if x != want || x.Qty < 1 || x.Qty > o.Qty {
			t.Fatalf("%+v meets %+v: %+v; want %+v", l[0], o, x, want)
		}
	}
}

// account is what became of one number, of all that was accepted of it and added by amends.
type account struct{ in, out, open int64 }

// accounts adds up events by numbers: the second row.
type accounts map[int]*account

func (a accounts) of(id int) *account {
	if a[id] == nil {
		a[id] = &account{}
	}
	return a[id]
}

func (a accounts) add(l []api.Event) {
	for _, x := range l {
		switch x.What {
		case api.Accepted:
			a.of(x.ID).in += x.Qty
		case api.Traded:
			a.of(x.ID).out += x.Qty
			a.of(x.Other).out += x.Qty
		case api.Withdrawn, api.Yielded, api.Dropped:
			a.of(x.ID).out += x.Qty
		case api.Amended, api.Reduced:
			a.of(x.ID).in += max(0, x.Qty-x.Was)
			a.of(x.ID).out += max(0, x.Was-x.Qty)
		}
	}
}

func (a accounts) expectEven(t *testing.T, e *engine.Engine) {
	t.Helper()
	for _, x := range a {
		x.open = 0
	}
	for _, o := range e.Orders() {
		a.of(o.ID).open = o.Qty
	}
	for id, x := range a {
		if x.in != x.out+x.open || x.in < 1 {
			t.Fatalf("of number %d: %d in, %d out, %d open", id, x.in, x.out, x.open)
		}
	}
}

// TestDrawnScripts holds an engine against the model, and every row of 'What holds' behind each call.
func TestDrawnScripts(t *testing.T) {
	refusals := map[api.Errno]int{}
	for seed, s := range shapes() {
		drawn := draw(uint64(seed))
		for range 3 + 6000/s.calls {
			e, m := made(t, s.c), &market{c: s.c}
			b, sums := shelf(t, s.c.Orders, s.c.Levels), accounts{}
			for range s.calls {
				was := e.Orders()
				a := expectSame(t, e, m, anyCall(drawn, m))
				refusals[a.no]++
				expectApart(t, e)
				expectPriority(t, was, a.l)
				sums.add(a.l)
				sums.expectEven(t, e)
				expectApply(t, b, a.l...)
				expectStanding(t, b, e.Orders()...)
				if t.Failed() {
					t.Fatal("market", s.c)
				}
			}
		}
	}
	for _, no := range []api.Errno{api.OK, full, noPrice, badKind, badSide, noClient, badQty, badPrice, cross, kill, noOrder, notOwn, unmoved, tooMuch, noNumber} {
		if refusals[no] < 10 {
			t.Errorf("only %d of the answers are %d", refusals[no], no)
		}
	}
}

// The events of all calls in one list, applied at once, make the engine's book; any first part of the calls makes it as it was.
func TestEventsMakeTheBook(t *testing.T) {
	for seed, s := range shapes() {
		drawn := draw(uint64(100 + seed))
		e, m := made(t, s.c), &market{c: s.c}
		var l []api.Event
		for i := range s.calls {
			l = append(l, expectSame(t, e, m, anyCall(drawn, m)).l...)
			if i%20 > 0 && i < s.calls-1 {
				continue
			}
			b := shelf(t, s.c.Orders, s.c.Levels)
			expectApply(t, b, l...)
			expectStanding(t, b, e.Orders()...)
		}
	}
}

// Whatever is refused, a later call is answered as if it had not been asked: an engine that is asked much that is refused is as one that is not (T4, R8).
func TestRefusedIsNotDone(t *testing.T) {
	for seed, s := range shapes() {
		drawn := draw(uint64(200 + seed))
		e, f, m := made(t, s.c), made(t, s.c), &market{c: s.c}
		for range s.calls {
			do := anyCall(drawn, m)
			was := m.copied()
			a := expectSame(t, e, m, do)
			if a.no != api.OK {
				if a.id != 0 || len(a.l) != 0 || !was.is(e) {
					t.Fatalf("%+v is %+v, and makes of %+v\n%s", do, a, was, told(e))
				}
				continue
			}
			if b := askEngine(f, do); !b.is(a) || !m.is(f) {
				t.Fatalf("%+v is %+v where nothing was refused; else %+v", do, b, a)
			}
		}
	}
}

// Engines know nothing of one another, whatever is asked of them in turn (R4).
func TestEnginesSideBySide(t *testing.T) {
	var l []*engine.Engine
	var models []*market
	for _, s := range shapes() {
		l = append(l, made(t, s.c), made(t, s.c))
		models = append(models, &market{c: s.c}, &market{c: s.c})
	}
	drawn := draw(300)
	for range 1500 {
		i := drawn(len(l))
		expectSame(t, l[i], models[i], anyCall(drawn, models[i]))
	}
	for i := range l {
		if !models[i].is(l[i]) {
			t.Errorf("engine %d is\n%s; want %+v", i, told(l[i]), models[i])
		}
	}
}

// place is what Apply is to do, by the chapter's words, to a list of orders as they came.
func (m *market) place(x api.Event) api.Errno {
	id := x.ID
	if x.What == api.Traded {
		id = x.Other
	}
	i, o := m.find(id), api.Order{}
	if i >= 0 {
		o = m.there[i]
	}
	left, isnt := int64(0), i < 0
	switch x.What {
	case api.Accepted, api.Dropped:
		return api.OK
	case api.Rested:
		return m.put(order(x.ID, x.Client, x.Side, x.Price, x.Qty))
	case api.Traded:
		left = o.Qty - x.Qty
		isnt = isnt || o.Side == x.Side || o.Price != x.Price || x.Qty < 1 || left < 0
	case api.Withdrawn, api.Yielded:
		isnt = isnt || o.Side != x.Side || o.Price != x.Price || o.Qty != x.Qty
	case api.Amended:
		isnt = isnt || o.Side != x.Side || o.Qty != x.Was
	case api.Reduced:
		left = x.Qty
		isnt = isnt || o.Side != x.Side || o.Price != x.Price || o.Qty != x.Was || x.Qty < 1 || x.Qty > x.Was-1
	default:
		isnt = true
	}
	switch {
	case isnt:
		return noOrder
	case left == 0:
		m.there = slices.Delete(m.there, i, i+1)
	default:
		m.there[i].Qty = left
	}
	return api.OK
}

func (m *market) put(o api.Order) api.Errno {
	switch {
	case o.ID < 1 || o.Client < 1 || o.Client > 8 || !slices.Contains(both, o.Side) || o.Price < 1 || o.Price > 1000000000 || o.Qty < 1 || o.Qty > 1000000000:
		return wrong
	case m.find(o.ID) >= 0:
		return twice
	}
	if no := m.room(o.Side, o.Price); no != api.OK {
		return no
	}
	m.there = append(m.there, o)
	return api.OK
}

// apply is what Apply is to answer.
func (m *market) apply(l []api.Event) (api.Errno, int) {
	for at, x := range l {
		if no := m.place(x); no != api.OK {
			return no, at
		}
	}
	return api.OK, 0
}

// anyEvent is one of a small book's, that can be more often than not; any field may be spoilt.
func anyEvent(drawn func(int) int, m *market) api.Event {
	x := api.Event{What: api.What(drawn(11)), ID: 1 + drawn(9), Other: 1 + drawn(9), Client: 1 + drawn(8), Holder: drawn(3), Side: both[drawn(2)], Price: int64(1 + drawn(3)), Qty: int64(1 + drawn(4)), Was: int64(1 + drawn(5))}
	if len(m.there) > 0 && drawn(5) > 0 {
		o := m.there[drawn(len(m.there))]
		x.ID, x.Side, x.Price, x.Qty, x.Was = o.ID, o.Side, o.Price, o.Qty, o.Qty
		switch x.What {
		case api.Traded:
			x.ID, x.Other, x.Side, x.Qty = x.Other, o.ID, other(o.Side), int64(1+drawn(int(o.Qty)))
		case api.Reduced:
			x.Qty = int64(1 + drawn(int(o.Qty)))
		case api.Rested:
			x.ID = 1 + drawn(9)
		}
	}
	switch n := []int64{-1, 0, 1, 2, greatest, least}[drawn(6)]; drawn(24) {
	case 0:
		x.ID = int(n)
	case 1:
		x.Other = int(n)
	case 2:
		x.Client = int(n)
	case 3:
		x.Side = api.Side(drawn(4))
	case 4:
		x.Price = n
	case 5:
		x.Qty = n
	case 6:
		x.Was = n
	}
	return x
}

// TestDrawnEvents applies events of all kinds, one by one and in lists, and holds the book against the model's.
func TestDrawnEvents(t *testing.T) {
	done, refused := map[api.What]int{}, map[api.Errno]int{}
	for seed := range 60 {
		drawn := draw(uint64(400 + seed))
		c := sized(drawn(9), drawn(4))
		b, m := shelf(t, c.Orders, c.Levels), &market{c: c}
		for range 400 {
			ahead := m.copied()
			var l []api.Event
			for range drawn(4) {
				x := anyEvent(drawn, ahead)
				if ahead.place(x) == api.OK {
					done[x.What]++
				}
				l = append(l, x)
			}
			want, wantAt := m.apply(l)
			refused[want]++
			if no, at := engine.Apply(b, l...); no != want || at != wantAt {
				t.Fatalf("Apply(%+v) is %d, %d; want %d, %d", l, no, at, want, wantAt)
			}
			expectStanding(t, b, m.orders()...)
			if t.Failed() {
				t.Fatalf("behind Apply(%+v)", l)
			}
		}
	}
	for what := api.Accepted; what <= api.Reduced; what++ {
		if done[what] < 50 {
			t.Errorf("only %d of the events were done that are %d", done[what], what)
		}
	}
	for _, no := range []api.Errno{api.OK, noOrder, wrong, twice, full, noPrice} {
		if refused[no] < 50 {
			t.Errorf("only %d of the lists are answered by %d", refused[no], no)
		}
	}
}

// Applied to two books, events do the same to both, and no book minds the other.
func TestBooksSideBySide(t *testing.T) {
	l := []*book.Book{shelf(t, 4, 2), shelf(t, 4, 2), shelf(t, 4, 2)}
	rest := event(api.Rested, 1, 1, api.Buy, 10, 5)
	expectApply(t, l[0], rest)
	expectApply(t, l[1], rest, traded(2, 1, 2, 1, api.Sell, 10, 2))
	expectStanding(t, l[0], order(1, 1, api.Buy, 10, 5))
	expectStanding(t, l[1], order(1, 1, api.Buy, 10, 3))
	expectStanding(t, l[2])
}
