package audit_test

import (
	"fmt"
	"reflect"
	"testing"

	"tripwire/api"
)

const (
	buys  = api.Buy
	sells = api.Sell
)

// Replies that are true in the scene, in which each of the eight events comes. The strategies 1 (client 1) and 4 (client 3) let them out.

// buysAll buys up to 11: 1 and 3 are its own client's.
func buysAll() step {
	return ticked(api.Top{Bid: 11, Last: 10, Volume: 4}, fired(1),
		accepted(7, 1, buys, 11, 12), yielded(1, 7, 1, sells, 10, 5), traded(7, 2, 1, 2, buys, 10, 4), yielded(3, 7, 1, sells, 11, 3), rested(7, 1, buys, 11, 8))
}

// buysSome has nothing left behind a part of an order.
func buysSome() step {
	return ticked(api.Top{Bid: 8, Ask: 10, Last: 10, Volume: 6}, fired(4),
		accepted(7, 3, buys, 10, 6), traded(7, 1, 3, 1, buys, 10, 5), traded(7, 2, 3, 2, buys, 10, 1))
}

// comesAnew is an amend that trades.
func comesAnew() step {
	return ticked(api.Top{Bid: 7, Ask: 8, Last: 8, Volume: 2}, fired(1),
		amended(3, 1, sells, 8, 4, 3), traded(3, 4, 1, 3, sells, 8, 2), yielded(6, 3, 1, buys, 8, 1), rested(3, 1, sells, 8, 2))
}

// sellsAny sells at any price; what is left is dropped.
func sellsAny() step {
	return ticked(api.Top{Ask: 10, Last: 7, Volume: 8}, fired(1),
		accepted(7, 1, sells, 0, 20), traded(7, 4, 1, 3, sells, 8, 2), yielded(6, 7, 1, buys, 8, 1), traded(7, 5, 1, 3, sells, 7, 6), dropped(7, 1, sells, 0, 12))
}

func reduces() step { return ticked(sceneTop(), fired(1), reduced(1, 1, sells, 10, 2, 5)) }

func withdraws() step { return ticked(sceneTop(), fired(1), withdrawn(3, 1, sells, 11, 3)) }

func drops() step {
	return ticked(sceneTop(), fired(1), accepted(7, 1, buys, 9, 3), dropped(7, 1, buys, 9, 3))
}

func trueOnes() []step {
	return []step{buysAll(), buysSome(), comesAnew(), sellsAny(), reduces(), withdraws(), drops()}
}

func TestTrueEvents(t *testing.T) {
	for _, x := range []struct {
		s    step
		want []api.Order
	}{
		{buysAll(), []api.Order{order(7, 1, buys, 11, 8), order(4, 3, buys, 8, 2), order(6, 1, buys, 8, 1), order(5, 3, buys, 7, 6)}},
		{buysSome(), []api.Order{order(4, 3, buys, 8, 2), order(6, 1, buys, 8, 1), order(5, 3, buys, 7, 6), order(2, 2, sells, 10, 3), order(3, 1, sells, 11, 3)}},
		{comesAnew(), []api.Order{order(5, 3, buys, 7, 6), order(3, 1, sells, 8, 2), order(1, 1, sells, 10, 5), order(2, 2, sells, 10, 4)}},
		{sellsAny(), []api.Order{order(1, 1, sells, 10, 5), order(2, 2, sells, 10, 4), order(3, 1, sells, 11, 3)}},
		{reduces(), []api.Order{order(4, 3, buys, 8, 2), order(6, 1, buys, 8, 1), order(5, 3, buys, 7, 6), order(1, 1, sells, 10, 2), order(2, 2, sells, 10, 4), order(3, 1, sells, 11, 3)}},
		{withdraws(), []api.Order{order(4, 3, buys, 8, 2), order(6, 1, buys, 8, 1), order(5, 3, buys, 7, 6), order(1, 1, sells, 10, 5), order(2, 2, sells, 10, 4)}},
		{drops(), sceneOrders()},
	} {
		j := staged(t)
		expectSeen(t, j, x.s)
		expectOrders(t, j, x.want...)
		expectTop(t, j, x.s.r.Top)
		expectSeen(t, j, step{book(), api.Reply{Orders: x.want, Top: x.s.r.Top}})
	}
}

// free are the fields of an event that may be others, as far as the event itself can tell; what is behind it is wrong then.
func free(w api.What) map[string]int {
	switch w {
	case api.Accepted:
		return map[string]int{"Client": 1, "Side": 1, "Price": 1, "Qty": 1}
	case api.Amended:
		return map[string]int{"Price": 1, "Qty": 1}
	case api.Reduced:
		return map[string]int{"Qty": 1}
	}
	return nil
}

// Each event of each true reply with each of its fields another one, and with each that it does not name set: it cannot be, there.
func TestEachField(t *testing.T) {
	tried := map[string]int{}
	for _, s := range trueOnes() {
		for at, x := range s.r.Told {
			if x.Tell != api.TellEvent {
				continue
			}
			of := reflect.TypeFor[api.Event]()
			for k := range of.NumField() {
				name := of.Field(k).Name
				if name == "What" || free(x.Event.What)[name] > 0 {
					continue
				}
				for _, n := range others(reflect.ValueOf(x.Event).Field(k)) {
					turn := func(s *step) { set(reflect.ValueOf(&s.r.Told[at].Event).Elem().Field(k), n) }
					expectWrong(t, staged(t), s.turned(turn), badEvent, at)
					tried[fmt.Sprint(x.Event.What, name)]++
				}
			}
		}
	}
	if len(tried) != 8*8-4-2-1 {
		t.Errorf("%d fields were tried: %v", len(tried), tried)
	}
}

// others are numbers that a field does not have: those near by, those that others have, the greatest.
func others(v reflect.Value) []int64 {
	var l []int64
	is, all := int64(0), []int64{least, -1, 0, 1, 2, 3, 4, 5, 6, 7, 8, 10, 11, most, greatest}
	if v.CanUint() {
		is, all = int64(v.Uint()), []int64{0, 1, 2, 3, 255}
	} else {
		is = v.Int()
		all = append(all, is-1, is+1, -is)
	}
	for _, n := range all {
		if n != is {
			l = append(l, n)
		}
	}
	return l
}

func set(v reflect.Value, n int64) {
	if v.CanUint() {
		v.SetUint(uint64(n))
	} else {
		v.SetInt(n)
	}
}

// Each event as one of another What, and as one of none.
func TestOtherWhats(t *testing.T) {
	for _, s := range trueOnes() {
		for at, x := range s.r.Told {
			for w := range 256 {
				if x.Tell != api.TellEvent || w == int(x.Event.What) {
					continue
				}
				e, place := badEvent, at
				// What is left may rest or be dropped, as far as can be told from events: then the top is another one.
				if at == len(s.r.Told)-1 && x.Event.What == api.Rested && w == int(api.Dropped) {
					e, place = badTop, 0
				}
				if x.Event.What == api.Dropped && w == int(api.Rested) && x.Event.Price != 0 {
					e, place = badTop, 0
				}
				// An order may come anew with what it would be reduced to: then it is under way.
				if x.Event.What == api.Reduced && w == int(api.Amended) {
					place = at + 1
				}
				expectWrong(t, staged(t), s.turned(func(s *step) { s.r.Told[at].Event.What = api.What(w) }), e, place)
			}
		}
	}
}

func TestAccepted(t *testing.T) {
	// at is an entry of the strategy 1 that is dropped.
	at := func(id, client int, side api.Side, price, qty int64) step {
		return ticked(sceneTop(), fired(1), accepted(id, client, side, price, qty), dropped(id, client, side, price, qty))
	}
	for _, s := range []step{at(7, 1, buys, 1, 1), at(7, 1, buys, 9, most), at(7, 1, sells, most, 1), at(7, 1, sells, most, most), at(7, 1, sells, 9, 1)} {
		expectSeen(t, staged(t), s)
	}
	for _, s := range []step{
		at(6, 1, buys, 9, 1), at(8, 1, buys, 9, 1), at(0, 1, buys, 9, 1), at(-7, 1, buys, 9, 1), at(1, 1, buys, 9, 1),
		at(7, 0, buys, 9, 1), at(7, 4, buys, 9, 1), at(7, -1, buys, 9, 1), at(7, 9, buys, 9, 1), at(7, least, buys, 9, 1), at(7, greatest, buys, 9, 1),
		at(7, 1, 0, 9, 1), at(7, 1, 3, 9, 1), at(7, 1, 255, 9, 1),
		at(7, 1, buys, -1, 1), at(7, 1, sells, most+1, 1), at(7, 1, buys, least, 1), at(7, 1, sells, greatest, 1),
		at(7, 1, buys, 9, 0), at(7, 1, buys, 9, -1), at(7, 1, buys, 9, most+1), at(7, 1, buys, 9, least), at(7, 1, buys, 9, greatest),
	} {
		expectWrong(t, staged(t), s, badEvent, 1)
	}
	// At any price it meets an order.
	expectWrong(t, staged(t), at(7, 1, buys, 0, 1), badEvent, 2)
	// Of a client no strategy of which has fired.
	expectWrong(t, staged(t), at(7, 2, buys, 9, 1), badTold, 1)
	// One by one the numbers rise.
	j := staged(t)
	expectSeen(t, j, at(7, 1, buys, 9, 1), at(8, 1, buys, 9, 1), ticked(sceneTop(), fired(1), accepted(9, 1, buys, 9, 1), dropped(9, 1, buys, 9, 1), accepted(10, 1, buys, 9, 1), dropped(10, 1, buys, 9, 1)))
	expectWrong(t, j, at(10, 1, buys, 9, 1), badEvent, 1)
}

func TestAmended(t *testing.T) {
	at := func(price, qty int64) step {
		return ticked(sceneTop(), fired(1), amended(3, 1, sells, price, qty, 3), rested(3, 1, sells, price, qty))
	}
	for _, s := range []step{at(11, 3), at(11, 4), at(11, 2), at(10, 1), at(most, most), at(12, 1)} {
		j := staged(t)
		expectSeen(t, j, s)
		e := s.r.Told[2].Event
		want := sceneOrders()
		want[5] = order(3, 1, sells, e.Price, e.Qty)
		expectOrders(t, j, want...)
	}
	for _, s := range []step{at(0, 3), at(-1, 3), at(most+1, 3), at(least, 3), at(greatest, 3), at(11, 0), at(11, -1), at(11, most+1), at(11, least), at(11, greatest)} {
		expectWrong(t, staged(t), s, badEvent, 1)
	}
	// It meets an order at 8.
	expectWrong(t, staged(t), at(8, 3), badEvent, 2)
	// It may be dropped, as far as events tell.
	expectSeen(t, staged(t), ticked(sceneTop(), fired(1), amended(3, 1, sells, 11, 1, 3), dropped(3, 1, sells, 11, 1)))
	// An order of another client, one that rests no more, one that never was.
	expectWrong(t, staged(t), ticked(sceneTop(), fired(1), amended(2, 1, sells, 11, 1, 4), rested(2, 1, sells, 11, 1)), badEvent, 1)
	expectWrong(t, staged(t), ticked(sceneTop(), fired(1), amended(2, 2, sells, 11, 1, 4), rested(2, 2, sells, 11, 1)), badTold, 1)
	expectWrong(t, staged(t), ticked(sceneTop(), fired(1), withdrawn(3, 1, sells, 11, 3), amended(3, 1, sells, 11, 1, 3), rested(3, 1, sells, 11, 1)), badEvent, 2)
	expectWrong(t, staged(t), ticked(sceneTop(), fired(1), amended(7, 1, sells, 11, 1, 3), rested(7, 1, sells, 11, 1)), badEvent, 1)
}

func TestReduced(t *testing.T) {
	at := func(qty int64) step { return ticked(sceneTop(), fired(1), reduced(1, 1, sells, 10, qty, 5)) }
	for _, qty := range []int64{1, 2, 3, 4} {
		j := staged(t)
		expectSeen(t, j, at(qty))
		want := sceneOrders()
		want[3].Qty = qty
		expectOrders(t, j, want...)
	}
	for _, qty := range []int64{least, -1, 0, 5, 6, greatest} {
		expectWrong(t, staged(t), at(qty), badEvent, 1)
	}
	// One lot cannot be reduced.
	expectWrong(t, staged(t), ticked(sceneTop(), fired(1), reduced(6, 1, buys, 8, 1, 1)), badEvent, 1)
	expectWrong(t, staged(t), ticked(sceneTop(), fired(1), reduced(6, 1, buys, 8, 0, 1)), badEvent, 1)
}

// What begins something cannot be while an entry is under way; what goes on with one, not while none is.
func TestUnderWay(t *testing.T) {
	begins := []api.Event{accepted(8, 1, buys, 9, 3), amended(3, 1, sells, 12, 3, 3), reduced(1, 1, sells, 10, 2, 5), withdrawn(3, 1, sells, 11, 3)}
	for _, e := range begins {
		expectWrong(t, staged(t), ticked(sceneTop(), fired(1), accepted(7, 1, buys, 9, 3), e, dropped(7, 1, buys, 9, 3)), badEvent, 2)
		expectWrong(t, staged(t), ticked(sceneTop(), fired(1), amended(1, 1, sells, 10, 6, 5), e, rested(1, 1, sells, 10, 6)), badEvent, 2)
	}
	goesOn := []api.Event{
		traded(7, 1, 3, 1, buys, 10, 1), traded(0, 1, 3, 1, buys, 10, 5), traded(0, 1, 0, 1, 0, 10, 0), traded(6, 1, 1, 1, buys, 10, 1), {What: api.Traded},
		yielded(1, 7, 1, sells, 10, 5), yielded(1, 0, 1, sells, 10, 5), {What: api.Yielded},
		rested(7, 1, buys, 9, 1), rested(6, 1, buys, 8, 1), rested(0, 0, 0, 1, 0), {What: api.Rested},
		dropped(7, 1, buys, 9, 1), dropped(0, 0, 0, 0, 0), {What: api.Dropped},
	}
	for _, e := range goesOn {
		expectWrong(t, staged(t), ticked(sceneTop(), fired(1), fired(4), e), badEvent, 2)
		expectWrong(t, staged(t), ticked(sceneTop(), e), badEvent, 0)
		// Behind an entry that has ended, by what is dropped, and by a trade.
		expectWrong(t, staged(t), ticked(sceneTop(), fired(1), accepted(7, 1, buys, 9, 1), dropped(7, 1, buys, 9, 1), e), badEvent, 3)
		expectWrong(t, staged(t), ticked(sceneTop(), fired(4), accepted(7, 3, buys, 10, 1), traded(7, 1, 3, 1, buys, 10, 1), e), badEvent, 3)
	}
}

// An entry that meets an order does not end, but by a trade that leaves nothing; one that meets none neither trades, nor lets an order yield.
func TestMeeting(t *testing.T) {
	for _, x := range []struct {
		side   api.Side
		price  int64
		client int
		meets  int
	}{
		{buys, 9, 1, 0}, {buys, 10, 1, 1}, {buys, 11, 1, 1}, {buys, most, 1, 1}, {buys, 0, 1, 1}, {buys, 1, 1, 0},
		{buys, 9, 3, 0}, {buys, 10, 3, 1}, {buys, 11, 3, 1}, {buys, 0, 3, 1},
		{sells, 9, 1, 0}, {sells, 8, 1, 4}, {sells, 7, 1, 4}, {sells, 1, 1, 4}, {sells, 0, 1, 4}, {sells, most, 1, 0},
		{sells, 9, 3, 0}, {sells, 8, 3, 4}, {sells, 7, 3, 4}, {sells, 0, 3, 4},
	} {
		begun := func(e api.Event) step {
			return ticked(sceneTop(), fired(1), fired(4), accepted(7, x.client, x.side, x.price, 1), e)
		}
		top := sceneTop()
		switch {
		case x.side == buys:
			top.Bid = x.price
		case x.side == sells:
			top.Ask = x.price
		}
		if x.meets == 0 {
			expectSeen(t, staged(t), begun(dropped(7, x.client, x.side, x.price, 1)))
			s := begun(rested(7, x.client, x.side, x.price, 1))
			s.r.Top.Bid, s.r.Top.Ask = max(s.r.Top.Bid, top.Bid), min(s.r.Top.Ask, top.Ask)
			expectSeen(t, staged(t), s)
		} else {
			expectWrong(t, staged(t), begun(dropped(7, x.client, x.side, x.price, 1)), badEvent, 3)
			expectWrong(t, staged(t), begun(rested(7, x.client, x.side, x.price, 1)), badEvent, 3)
		}
		for _, o := range sceneOrders() {
			isFirst := o.ID == x.meets
			trade := begun(traded(7, o.ID, x.client, o.Client, x.side, o.Price, 1))
			trade.r.Top.Last, trade.r.Top.Volume = o.Price, 1
			if isFirst && o.Client != x.client {
				expectSeen(t, staged(t), trade)
			} else {
				expectWrong(t, staged(t), trade, badEvent, 3)
			}
			yield := begun(yielded(o.ID, 7, o.Client, o.Side, o.Price, o.Qty))
			if isFirst && o.Client == x.client {
				// It has yielded, and the entry is under way still.
				expectWrong(t, staged(t), yield, badEvent, 4)
			} else {
				expectWrong(t, staged(t), yield, badEvent, 3)
			}
		}
	}
}

// At Price 0 nothing rests, also where nothing is met; what is left is dropped.
func TestPriceNought(t *testing.T) {
	for _, side := range []api.Side{buys, sells} {
		enters := func(last api.Event) step {
			return step{enter(1, api.Market, side, 0, 5), api.Reply{ID: 1, Told: told(accepted(1, 1, side, 0, 5), last)}}
		}
		expectSeen(t, made(t, plain()), enters(dropped(1, 1, side, 0, 5)))
		expectWrong(t, made(t, plain()), enters(rested(1, 1, side, 0, 5)), badEvent, 1)
		expectWrong(t, made(t, plain()), enters(rested(1, 1, side, 1, 5)), badEvent, 1)
		expectWrong(t, made(t, plain()), enters(dropped(1, 1, side, 1, 5)), badEvent, 1)
		expectWrong(t, made(t, plain()), enters(dropped(1, 1, side, 0, 4)), badEvent, 1)
	}
}

// An entry that is still under way behind the last thing: the place is behind it.
func TestStillUnderWay(t *testing.T) {
	for _, s := range []step{buysAll(), buysSome(), comesAnew(), sellsAny(), drops()} {
		for n := 2; n < len(s.r.Told); n++ {
			expectWrong(t, staged(t), s.turned(func(s *step) { s.r.Told = s.r.Told[:n] }), badEvent, n)
		}
	}
	// Reduced and Withdrawn let nothing be under way.
	expectSeen(t, staged(t), reduces(), withdraws())
	s := rests(7, 1, sells, 12, 2, sceneTop())
	expectWrong(t, staged(t), s.turned(func(s *step) { s.r.Told = s.r.Told[:1] }), badEvent, 1)
}

// Of one price the order that came first has priority: one that is reduced keeps its place, one that is amended comes last.
func TestPriority(t *testing.T) {
	j := staged(t)
	expectSeen(t, j, ticked(sceneTop(), fired(1), reduced(1, 1, sells, 10, 3, 5)))
	expectOrders(t, j, append(sceneOrders()[:3], order(1, 1, sells, 10, 3), order(2, 2, sells, 10, 4), order(3, 1, sells, 11, 3))...)
	expectSeen(t, j, ticked(sceneTop(), fired(1), amended(1, 1, sells, 10, 6, 3), rested(1, 1, sells, 10, 6)))
	expectOrders(t, j, append(sceneOrders()[:3], order(2, 2, sells, 10, 4), order(1, 1, sells, 10, 6), order(3, 1, sells, 11, 3))...)
	expectSeen(t, j, ticked(sceneTop(), fired(4), amended(5, 3, buys, 8, 6, 6), rested(5, 3, buys, 8, 6)))
	expectOrders(t, j, order(4, 3, buys, 8, 2), order(6, 1, buys, 8, 1), order(5, 3, buys, 8, 6), order(2, 2, sells, 10, 4), order(1, 1, sells, 10, 6), order(3, 1, sells, 11, 3))
	expectSeen(t, j, ticked(api.Top{Bid: 9, Ask: 10}, fired(4), amended(5, 3, buys, 9, 6, 6), rested(5, 3, buys, 9, 6)))
	expectOrders(t, j, order(5, 3, buys, 9, 6), order(4, 3, buys, 8, 2), order(6, 1, buys, 8, 1), order(2, 2, sells, 10, 4), order(1, 1, sells, 10, 6), order(3, 1, sells, 11, 3))
	// The number that came first does not matter.
	s := ticked(api.Top{Bid: 9, Ask: 10, Last: 10, Volume: 1}, fired(4), accepted(7, 3, buys, 10, 1), traded(7, 1, 3, 1, buys, 10, 1))
	expectWrong(t, j, s, badEvent, 2)
}

// Rows of one side in whatever order they come: by price, and of one price as they came.
func TestRows(t *testing.T) {
	prices := []int64{5, 7, 5, 3, 7, 9, 1, 5, 3, 9}
	for _, side := range []api.Side{buys, sells} {
		j := made(t, with(func(c *api.Config) { c.Open = 16 }))
		var want []api.Order
		for k, price := range prices {
			at := 0
			for at < len(want) && (want[at].Price == price || (want[at].Price > price) == (side == buys)) {
				at++
			}
			want = append(want[:at], append([]api.Order{order(k+1, 1, side, price, 1)}, want[at:]...)...)
			top := api.Top{Bid: want[0].Price}
			if side == sells {
				top = api.Top{Ask: want[0].Price}
			}
			expectSeen(t, j, rests(k+1, 1, side, price, 1, top), step{book(), api.Reply{Orders: want, Top: top}})
			expectOrders(t, j, want...)
		}
	}
}
