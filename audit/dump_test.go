package audit_test

import (
	"reflect"
	"testing"

	"tripwire/api"
)

// Of each Op the top is the judge's own, in each of its fields.
func TestAnotherTop(t *testing.T) {
	for _, s := range answers() {
		for k := range reflect.TypeFor[api.Top]().NumField() {
			for _, n := range others(reflect.ValueOf(s.r.Top).Field(k)) {
				expectWrong(t, staged(t), s.turned(func(s *step) { set(reflect.ValueOf(&s.r.Top).Elem().Field(k), n) }), badTop, 0)
			}
		}
	}
	for _, s := range trueOnes() {
		for k := range reflect.TypeFor[api.Top]().NumField() {
			for _, n := range others(reflect.ValueOf(s.r.Top).Field(k)) {
				expectWrong(t, staged(t), s.turned(func(s *step) { set(reflect.ValueOf(&s.r.Top).Elem().Field(k), n) }), badTop, 0)
			}
		}
	}
}

// Last and Volume stay when all that rests is gone.
func TestTheTopStays(t *testing.T) {
	j := made(t, plain())
	expectSeen(t, j, e(1), step{buy(2, 10, 5), api.Reply{ID: 2, Told: told(accepted(2, 2, buys, 10, 5), traded(2, 1, 2, 1, buys, 10, 5)), Top: api.Top{Last: 10, Volume: 5}}})
	expectTop(t, j, api.Top{Last: 10, Volume: 5})
	expectOrders(t, j)
	expectSeen(t, j, step{tick(100), api.Reply{Top: api.Top{Last: 10, Volume: 5}}})
	expectWrong(t, j, step{tick(100), api.Reply{}}, badTop, 0)
}

func TestAnotherBook(t *testing.T) {
	s := answers()[api.OpBook]
	for at := range s.r.Orders {
		for k := range reflect.TypeFor[api.Order]().NumField() {
			for _, n := range others(reflect.ValueOf(s.r.Orders[at]).Field(k)) {
				expectWrong(t, staged(t), s.turned(func(s *step) { set(reflect.ValueOf(&s.r.Orders[at]).Elem().Field(k), n) }), badDump, 0)
			}
		}
		expectWrong(t, staged(t), s.turned(func(s *step) { s.r.Orders = append(s.r.Orders[:at], s.r.Orders[at+1:]...) }), badDump, 0)
		expectWrong(t, staged(t), s.turned(func(s *step) { s.r.Orders = append(s.r.Orders, s.r.Orders[at]) }), badDump, 0)
		for other := range at {
			expectWrong(t, staged(t), s.turned(func(s *step) { s.r.Orders[at], s.r.Orders[other] = s.r.Orders[other], s.r.Orders[at] }), badDump, 0)
		}
	}
	expectWrong(t, staged(t), s.turned(func(s *step) { s.r.Orders = nil }), badDump, 0)
	expectWrong(t, staged(t), s.turned(func(s *step) { s.r.Orders = append(s.r.Orders[3:], s.r.Orders[:3]...) }), badDump, 0)
	expectWrong(t, made(t, plain()), step{book(), api.Reply{Orders: []api.Order{{}}}}, badDump, 0)
}

func TestAnotherUsage(t *testing.T) {
	for client, is := range []api.Usage{1: {Strats: 2, Orders: 3, Lots: 9, Acts: 3}, 2: {Strats: 1, Orders: 1, Lots: 4, Acts: 1}, 3: {Strats: 1, Orders: 2, Lots: 8, Acts: 2}} {
		if client == 0 {
			continue
		}
		s := step{quota(client), api.Reply{Usage: is, Top: sceneTop()}}
		expectSeen(t, staged(t), s)
		for k := range reflect.TypeFor[api.Usage]().NumField() {
			for _, n := range others(reflect.ValueOf(is).Field(k)) {
				expectWrong(t, staged(t), s.turned(func(s *step) { set(reflect.ValueOf(&s.r.Usage).Elem().Field(k), n) }), badDump, 0)
			}
		}
		expectWrong(t, staged(t), s.turned(func(s *step) { s.r.Usage = api.Usage{} }), badDump, 0)
	}
}

// The strategies 1 and 4 run in the scene.
func TestAnotherStanding(t *testing.T) {
	for id, s := range map[int]api.Standing{
		1: {ID: 1, Client: 1, Status: api.Running, Snap: api.Snap{Bid: 8, Ask: 10, Now: 1, Open: 9}},
		4: {ID: 4, Client: 3, Status: api.Running, Snap: api.Snap{Bid: 8, Ask: 10, Now: 1, Open: 8}},
	} {
		stands := func(turn func(s *api.Standing)) step {
			x := s
			turn(&x)
			return step{status(id), api.Reply{Stand: x, Top: sceneTop()}}
		}
		for _, n := range []int{least, -1, 0, 2, 3, 5, greatest} {
			expectWrong(t, staged(t), stands(func(s *api.Standing) { s.ID = n }), badDump, 0)
		}
		for _, n := range []int{least, -1, 0, 2, 4, greatest} {
			expectWrong(t, staged(t), stands(func(s *api.Standing) { s.Client = n }), badDump, 0)
		}
		for _, how := range []api.Status{api.Stopped, api.Halted, api.Faulted, 4, 255} {
			expectWrong(t, staged(t), stands(func(s *api.Standing) { s.Status = how }), badDump, 0)
		}
		for k := range reflect.TypeFor[api.Snap]().NumField() {
			for _, n := range others(reflect.ValueOf(s.Snap).Field(k)) {
				expectWrong(t, staged(t), stands(func(s *api.Standing) { set(reflect.ValueOf(&s.Snap).Elem().Field(k), n) }), badDump, 0)
			}
		}
		// What else it says is not looked at.
		expectSeen(t, staged(t), stands(func(s *api.Standing) { s.Code, s.State, s.Regs, s.Slots = -5, -7, []int64{1, 2}, []int{99, 0} }))
	}
}

// Of one that does not run, its snapshot is not looked at; only Running it must not be.
func TestTheStandingOfOneThatDoesNotRun(t *testing.T) {
	for id, client := range map[int]int{2: 2, 3: 1} {
		for _, how := range []api.Status{api.Stopped, api.Halted, api.Faulted, 4, 255} {
			for _, w := range []api.Snap{{}, {Bid: 8, Ask: 10, Now: 1, Open: 9}, {Bid: -1, Ask: 3, Last: -9, Volume: 5, Now: 99, Open: -4}} {
				expectSeen(t, staged(t), step{status(id), api.Reply{Stand: api.Standing{ID: id, Client: client, Status: how, Code: 7, State: 3, Regs: []int64{5}, Slots: []int{1}, Snap: w}, Top: sceneTop()}})
			}
		}
		for _, s := range []api.Standing{{ID: id, Client: client, Status: api.Running}, {ID: id, Client: client, Status: api.Running, Snap: api.Snap{Bid: 8, Ask: 10, Now: 1, Open: 9}}, {ID: id, Client: client + 1}, {ID: id}, {Client: client}, {ID: id + 1, Client: client}, {}} {
			expectWrong(t, staged(t), step{status(id), api.Reply{Stand: s, Top: sceneTop()}}, badDump, 0)
		}
	}
}

// A view has the last trade, the volume, the time at hand and what is open then.
func TestTheViewGoesOn(t *testing.T) {
	j := staged(t)
	s := buysAll()
	stands := func(open int64, top api.Top, now int64) step {
		return step{status(1), api.Reply{Stand: api.Standing{ID: 1, Client: 1, Status: api.Running, Snap: api.Snap{Bid: top.Bid, Ask: top.Ask, Last: top.Last, Volume: top.Volume, Now: now, Open: open}}, Top: top}}
	}
	expectSeen(t, j, s, stands(9, s.r.Top, 2), step{tick(44), api.Reply{Top: s.r.Top}}, stands(9, s.r.Top, 44))
	cancelled := api.Top{Bid: 8, Last: 10, Volume: 4}
	expectSeen(t, j, step{cancel(1, 7), api.Reply{Told: told(withdrawn(7, 1, buys, 11, 8)), Top: cancelled}}, stands(1, cancelled, 44))
	expectWrong(t, j, stands(9, cancelled, 44), badDump, 0)
}
