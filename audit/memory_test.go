package audit_test

import (
	"slices"
	"testing"

	"tripwire/api"
	"tripwire/audit"
)

// spoil lays something else into all that a reply has, and into the room behind its lists.
func spoil(r *api.Reply) {
	for k := range r.Told[:cap(r.Told)] {
		r.Told[:cap(r.Told)][k] = api.Told{Tell: 9, Event: api.Event{ID: 99, Price: 99, Qty: 99}, Strategy: 99}
	}
	for k := range r.Orders[:cap(r.Orders)] {
		r.Orders[:cap(r.Orders)][k] = api.Order{ID: 99, Client: 9, Price: 99, Qty: 99}
	}
	for k := range r.Stand.Regs[:cap(r.Stand.Regs)] {
		r.Stand.Regs[:cap(r.Stand.Regs)][k] = 99
	}
	for k := range r.Stand.Slots[:cap(r.Stand.Slots)] {
		r.Stand.Slots[:cap(r.Stand.Slots)][k] = 99
	}
}

// roomy is the same reply with room behind its lists, in which something stands.
func roomy(r api.Reply) api.Reply {
	r = copied(r)
	r.Told = append(r.Told, fired(1), happened(accepted(7, 1, buys, 9, 1)))[:len(r.Told)]
	r.Orders = append(r.Orders, order(77, 1, buys, 9, 1))[:len(r.Orders)]
	r.Stand.Regs = append(r.Stand.Regs, 77)[:len(r.Stand.Regs)]
	r.Stand.Slots = append(r.Stand.Slots, 77)[:len(r.Stand.Slots)]
	return r
}

// whole is a reply with what stands behind its lists.
func whole(r api.Reply) api.Reply {
	r.Told, r.Orders = r.Told[:cap(r.Told)], r.Orders[:cap(r.Orders)]
	r.Stand.Regs, r.Stand.Slots = r.Stand.Regs[:cap(r.Stand.Regs)], r.Stand.Slots[:cap(r.Stand.Slots)]
	return copied(r)
}

// What is handed in is neither changed nor kept, nor is what stands behind its lists looked at (R2).
func TestWhatIsHandedIn(t *testing.T) {
	j, pure := made(t, plain()), made(t, plain())
	all := append(scene(), answers()[api.OpBook], answers()[api.OpQuota], answers()[api.OpStatus], buysAll())
	for _, s := range all {
		r := roomy(s.r)
		ahead := whole(r)
		expectSeen(t, j, step{s.c, r})
		if !same(ahead, whole(r)) {
			t.Errorf("%+v was changed to %+v", ahead, whole(r))
		}
		spoil(&r)
		expectSeen(t, pure, s)
		if !same(seen(j), seen(pure)) {
			t.Errorf("behind %+v it has %+v; want %+v", s.c, seen(j), seen(pure))
		}
	}
	// Nor is what is wrong.
	s := buysAll().turned(func(s *step) { s.r.Told[5].Event.Qty++ })
	j = staged(t)
	r := roomy(s.r)
	ahead := whole(r)
	expectWrong(t, j, step{s.c, r}, badEvent, 5)
	if !same(ahead, whole(r)) {
		t.Errorf("%+v was changed to %+v", ahead, whole(r))
	}
	spoil(&r)
	expectOrders(t, j, sceneOrders()...)
	expectWrong(t, j, s, badEvent, 5)
}

// What comes out is its caller's: all of it, and the room behind it, may be changed (R2).
func TestWhatComesOut(t *testing.T) {
	j := staged(t)
	one, two := j.Orders(), j.Orders()
	for k := range one[:cap(one)] {
		one[:cap(one)][k] = order(99, 9, 9, 99, 99)
	}
	_ = append(one[:2], order(98, 9, 9, 98, 98))
	if !slices.Equal(two, sceneOrders()) {
		t.Errorf("%+v shares memory with %+v", two, one)
	}
	expectOrders(t, j, sceneOrders()...)
	for k := range two[:cap(two)] {
		two[:cap(two)][k] = api.Order{}
	}
	expectSeen(t, j, answers()[api.OpBook], buysAll())
	// What came out ahead of a reply stays as it was behind it.
	j = staged(t)
	l := j.Orders()
	expectSeen(t, j, sellsAny())
	if !slices.Equal(l, sceneOrders()) {
		t.Errorf("%+v", l)
	}
	j = staged(t)
	l = j.Orders()
	s := sellsAny()
	s.r.Top = api.Top{}
	j.Sees(s.c, s.r)
	behind := j.Orders()
	for k := range behind[:cap(behind)] {
		behind[:cap(behind)][k] = api.Order{}
	}
	expectOrders(t, j, l...)
}

// An empty book comes out empty, each time, with one side or none.
func TestEmptyBooks(t *testing.T) {
	j := made(t, plain())
	_ = append(j.Orders(), order(9, 9, buys, 9, 9))
	expectOrders(t, j)
	expectSeen(t, j, e(1))
	_ = append(j.Orders(), order(9, 9, buys, 9, 9))
	expectOrders(t, j, order(1, 1, sells, 10, 5))
	j = made(t, plain())
	expectSeen(t, j, rests(1, 1, buys, 10, 5, api.Top{Bid: 10}))
	_ = append(j.Orders(), order(9, 9, buys, 9, 9))
	expectOrders(t, j, order(1, 1, buys, 10, 5))
	expectSeen(t, j, rests(2, 1, sells, 11, 5, api.Top{Bid: 10, Ask: 11}))
	expectOrders(t, j, order(1, 1, buys, 10, 5), order(2, 1, sells, 11, 5))
}

// Judges know nothing of one another (R4), also where one finds something wrong.
func TestTwoJudges(t *testing.T) {
	one, two := staged(t), staged(t)
	expectSeen(t, one, buysAll())
	expectOrders(t, two, sceneOrders()...)
	expectWrong(t, one, step{tick(0), api.Reply{}}, badReply, 0)
	expectSeen(t, two, comesAnew())
	expectTop(t, one, api.Top{Bid: 11, Last: 10, Volume: 4})
	expectTop(t, two, api.Top{Bid: 7, Ask: 8, Last: 8, Volume: 2})
	expectWrong(t, two, ticked(api.Top{}, fired(1), fired(2)), badTold, 1)
	expectWrong(t, one, step{book(), api.Reply{}}, badReply, 0)
	three := made(t, plain())
	expectNothing(t, three)
	expectSeen(t, three, scene()...)
	// Of another config.
	four := made(t, with(func(c *api.Config) { c.Rules.Clients, c.Acts = 1, 1 }))
	expectSeen(t, four, e(1))
	expectWrong(t, four, e(2), badQuota, 0)
	expectSeen(t, three, answers()[api.OpBook])
}

// To ask changes nothing, however often.
func TestToAskChangesNothing(t *testing.T) {
	ask := func(j *audit.Judge) {
		for range 3 {
			seen(j)
			expectSeen(t, j, answers()[api.OpBook], answers()[api.OpQuota], answers()[api.OpStatus])
		}
	}
	j := staged(t)
	ahead := seen(j)
	ask(j)
	if behind := seen(j); !same(ahead, behind) {
		t.Errorf("%+v; want %+v", behind, ahead)
	}
	expectSeen(t, j, buysAll())
}
