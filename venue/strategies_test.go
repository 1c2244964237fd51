package venue_test

import (
	"testing"

	"tripwire/api"
	"tripwire/venue"
)

// stands is a venue whose client 1 has one strategy of each stand, and client 2 likewise: never started, running, stopped, halted, faulted.
func stands(t *testing.T) *venue.Venue {
	t.Helper()
	v := made(t, with(func(c *api.Config) { c.Strats = 8 }))
	for client := 1; client <= 2; client++ {
		done(t, v, upload(client, idle()))
		begun(t, v, client, idle())
		done(t, v, stop(client, begun(t, v, client, idle())))
		begun(t, v, client, "strategy s { state a { when true do halt; } }")
		begun(t, v, client, "strategy s { state a { when bid > 1p do halt; } }")
	}
	for id := 1; id <= 10; id++ {
		want := api.Standing{ID: id, Client: 1 + (id-1)/5, Status: []api.Status{api.Stopped, api.Running, api.Stopped, api.Halted, api.Faulted}[(id-1)%5]}
		if want.Status == api.Faulted {
			want.Code = api.ErrMeanAbsent
		}
		expectStand(t, v, want)
	}
	return v
}

// Start, stop and drop: of a client that is none, of a strategy that is none, of another client's, and of one that stands so or so.
func TestWhatMayBeStartedStoppedDropped(t *testing.T) {
	for _, op := range []api.Op{api.OpStart, api.OpStop, api.OpDrop} {
		v := stands(t)
		for _, client := range nobody(2) {
			for _, id := range []int{1, 2, 3, 4, 5, 7, 0, -1, 11} {
				expectRefused(t, v, api.Command{Op: op, Client: client, ID: id}, noOne)
			}
		}
		for client := 1; client <= 2; client++ {
			for _, id := range []int{0, -1, 11, 12, least, greatest} {
				expectRefused(t, v, api.Command{Op: op, Client: client, ID: id}, noStrat)
			}
			for n := 1; n <= 5; n++ {
				expectRefused(t, v, api.Command{Op: op, Client: client, ID: n + 5*(2-client)}, noOwner)
			}
		}
		for client := 1; client <= 2; client++ {
			for n := 1; n <= 5; n++ {
				c := api.Command{Op: op, Client: client, ID: n + 5*(client-1)}
				switch isRunning := n == 2; {
				case op == api.OpStop && !isRunning:
					expectRefused(t, v, c, stopped)
				case op != api.OpStop && isRunning:
					expectRefused(t, v, c, runs)
				default:
					done(t, v, c)
				}
			}
		}
	}
}

// OpStatus asks for no client, of whatever strategy.
func TestStatus(t *testing.T) {
	v := stands(t)
	for id := 1; id <= 10; id++ {
		want, is := v.Stand(id)
		if !is {
			t.Fatal(id)
		}
		for _, client := range append(nobody(2), 1, 2) {
			c := status(id)
			c.Client = client
			if r := v.Do(c); !same(r, api.Reply{Stand: want}) {
				t.Error(r)
			}
		}
	}
	for _, id := range []int{0, -1, 11, least, greatest} {
		expectRefused(t, v, status(id), noStrat)
		if s, is := v.Stand(id); is || !same(s, api.Standing{}) {
			t.Error(s, is)
		}
	}
	expectStrategies(t, v, 1, 2, 3, 4, 5, 6, 7, 8, 9, 10)
}

// One that was never started, whatever happens in the market.
func TestNeverStarted(t *testing.T) {
	v := made(t, plain())
	done(t, v, buy(2, 5, 1))
	done(t, v, tick(7))
	done(t, v, upload(1, "strategy s { reg n int = -3; reg b bool = true; reg d side = sell; slot o; slot u; state a { when has bid do halt; } state b {} }"))
	want := api.Standing{ID: 1, Client: 1, Regs: []int64{-3, 1, 2}, Slots: []int{0, 0}}
	expectStand(t, v, want)
	saying(t, v, buy(2, 6, 1), 0, "accepted 2 6 1, rested 2 6 1")
	saying(t, v, tick(8), 0, "")
	expectStand(t, v, want)
}

// One that is started sees THE VIEW of its client, and that is news to it.
func TestTheView(t *testing.T) {
	v := made(t, plain())
	done(t, v, sell(1, 20, 5))
	done(t, v, sell(2, 19, 4))
	done(t, v, buy(1, 19, 3))
	done(t, v, buy(1, 7, 3))
	done(t, v, buy(1, 8, 2))
	done(t, v, tick(4))
	view := api.Snap{Bid: 8, Ask: 19, Last: 19, Volume: 3, Now: 4}
	for client := 1; client <= 2; client++ {
		view.Open = []int64{10, 1}[client-1]
		id := done(t, v, upload(client, idle())).ID
		expectStand(t, v, api.Standing{ID: id, Client: client})
		if r := v.Do(start(client, id)); !same(r, api.Reply{Rounds: 1, Top: v.Top()}) {
			t.Error(r)
		}
		expectStand(t, v, api.Standing{ID: id, Client: client, Status: api.Running, Snap: view})
	}
	id := done(t, v, upload(1, "strategy s { state a { when bid == 8p && ask == 19p && last == 19p && volume == 3q && now == 4t && open == 10q do halt; } }")).ID
	saying(t, v, start(1, id), 1, "fired 3 0, halted 3")
}

// In an empty market the view is noughts, and that is news, too: a rule that always holds fires at once.
func TestAnEmptyViewIsNews(t *testing.T) {
	v := made(t, plain())
	done(t, v, upload(1, one("when n < 2 do set n = n + 1;")))
	if r := saying(t, v, start(1, 1), 1, "fired 1 0"); r.Steps != 6 {
		t.Error(r)
	}
	expectStand(t, v, stand(1, api.Running, 1, 0, 0, api.Snap{}))
}

// Started again it begins anew: state, registers, slots and what it sees; while it was stopped it stayed as it stood.
func TestStartedAgain(t *testing.T) {
	const text = "strategy s { reg n int = 4; slot o; slot u; state a { when has ask do submit buy of 1q at 2p post as u, set n = n + 1, goto b; } state b {} }"
	v := running(t, plain(), text)
	saying(t, v, sell(2, 10, 5), 2, "accepted 1 10 5, rested 1 10 5, fired 1 0, accepted 2 2 1, rested 2 2 1")
	was := api.Standing{ID: 1, Client: 1, Status: api.Running, State: 1, Regs: []int64{5}, Slots: []int{0, 2}, Snap: api.Snap{Bid: 2, Ask: 10, Open: 1}}
	expectStand(t, v, was)
	if r := v.Do(stop(1, 1)); !same(r, api.Reply{Top: v.Top()}) {
		t.Error(r)
	}
	was.Status = api.Stopped
	expectStand(t, v, was)
	saying(t, v, cancel(2, 1), 0, "withdrawn 1 10 5")
	saying(t, v, buy(2, 3, 1), 0, "accepted 3 3 1, rested 3 3 1")
	saying(t, v, tick(6), 0, "")
	expectStand(t, v, was)
	saying(t, v, start(1, 1), 1, "")
	expectStand(t, v, api.Standing{ID: 1, Client: 1, Status: api.Running, Regs: []int64{4}, Slots: []int{0, 0}, Snap: api.Snap{Bid: 3, Open: 1, Now: 6}})
	// Its old order rests on, and is no slot's any more.
	expectOrders(t, v, order(3, 2, api.Buy, 3, 1), order(2, 1, api.Buy, 2, 1))
	saying(t, v, sell(2, 10, 5), 2, "accepted 4 10 5, rested 4 10 5, fired 1 0, accepted 5 2 1, rested 5 2 1")
	expectStand(t, v, api.Standing{ID: 1, Client: 1, Status: api.Running, State: 1, Regs: []int64{5}, Slots: []int{0, 5}, Snap: api.Snap{Bid: 3, Ask: 10, Open: 2, Now: 6}})
}

// One that halted or faulted is started again, too; its Code is gone then.
func TestStartedBehindItsEnd(t *testing.T) {
	v := running(t, plain(), one("when has ask do submit buy of 1q at 2p post as o, set n = 7, halt; when n == 0 && last > 5p do halt;"))
	expectStand(t, v, api.Standing{ID: 1, Client: 1, Status: api.Faulted, Code: api.ErrMeanAbsent, Regs: []int64{0}, Slots: []int{0, 0}})
	saying(t, v, sell(2, 10, 5), 0, "accepted 1 10 5, rested 1 10 5")
	expectStand(t, v, api.Standing{ID: 1, Client: 1, Status: api.Faulted, Code: api.ErrMeanAbsent, Regs: []int64{0}, Slots: []int{0, 0}})
	saying(t, v, start(1, 1), 1, "fired 1 0, halted 1, accepted 2 2 1, rested 2 2 1")
	// What a firing that halts lets out is done, and laid into its slot; but it sees no more.
	halted := stand(1, api.Halted, 7, 2, 0, api.Snap{Ask: 10})
	expectStand(t, v, halted)
	saying(t, v, cancel(2, 1), 0, "withdrawn 1 10 5")
	expectStand(t, v, halted)
	expectRefused(t, v, stop(1, 1), stopped)
	done(t, v, sell(2, 9, 1))
	saying(t, v, start(1, 1), 1, "fired 1 0, halted 1, accepted 4 2 1, rested 4 2 1")
	expectStand(t, v, stand(1, api.Halted, 7, 4, 0, api.Snap{Bid: 2, Ask: 9, Open: 1}))
	done(t, v, cancel(2, 3))
	saying(t, v, start(1, 1), 1, "faulted 1 170")
	expectStand(t, v, api.Standing{ID: 1, Client: 1, Status: api.Faulted, Code: api.ErrMeanAbsent, Regs: []int64{0}, Slots: []int{0, 0}, Snap: api.Snap{Bid: 2, Open: 2}})
}

// One that is dropped is no more: its number is not given again, its orders stay, and there is room for another one.
func TestDropped(t *testing.T) {
	v := running(t, plain(), one("when n == 0 do submit buy of 3q at 2p post as o, set n = 1;"), idle())
	expectRefused(t, v, upload(1, idle()), noPlan)
	done(t, v, stop(1, 1))
	if r := v.Do(drop(1, 1)); !same(r, api.Reply{Top: api.Top{Bid: 2}}) {
		t.Error(r)
	}
	expectStrategies(t, v, 2)
	expectOrders(t, v, order(1, 1, api.Buy, 2, 3))
	for _, c := range []api.Command{start(1, 1), stop(1, 1), drop(1, 1), status(1), drop(2, 1)} {
		expectRefused(t, v, c, noStrat)
	}
	if s, is := v.Stand(1); is || !same(s, api.Standing{}) {
		t.Error(s, is)
	}
	expectUsage(t, v, 1, api.Usage{Strats: 1, Orders: 1, Lots: 3, Acts: 1})
	done(t, v, stop(1, 2))
	done(t, v, drop(1, 2))
	expectStrategies(t, v)
	for _, want := range []int{3, 4} {
		if id := done(t, v, upload(1, idle())).ID; id != want {
			t.Errorf("%d; want %d", id, want)
		}
	}
	expectStrategies(t, v, 3, 4)
	// A refused upload takes no number.
	expectRefused(t, v, upload(1, idle()), noPlan)
	done(t, v, drop(1, 3))
	expectRefusedAt(t, v, upload(1, "strategy"), api.ErrParseToken, 8)
	if id := done(t, v, upload(1, idle())).ID; id != 5 {
		t.Error(id)
	}
	done(t, v, cancel(1, 1))
}

// Numbers are given over all clients, and told rising.
func TestNumbersOfStrategies(t *testing.T) {
	v := made(t, with(func(c *api.Config) { c.Rules.Clients, c.Strats = 8, 8 }))
	for n := range 64 {
		client := 1 + (5*n)%8
		if id := done(t, v, upload(client, idle())).ID; id != n+1 {
			t.Fatal(id, n)
		}
	}
	var want []int
	for id := 1; id <= 64; id++ {
		client := 1 + (5*(id-1))%8
		if id%3 == 0 {
			done(t, v, drop(client, id))
			continue
		}
		want = append(want, id)
	}
	expectStrategies(t, v, want...)
}

// To stop one is nothing to the others, nor to the market.
func TestStopIsNoNews(t *testing.T) {
	v := running(t, plain(), "strategy s { state a { when has ask do submit buy of 1q at ask ioc; } }", idle())
	done(t, v, sell(2, 10, 50))
	ahead := v.Top()
	if r := v.Do(stop(1, 2)); !same(r, api.Reply{Top: ahead}) {
		t.Error(r)
	}
	if r := v.Do(drop(1, 2)); !same(r, api.Reply{Top: ahead}) {
		t.Error(r)
	}
	// And to start one sets no other one going.
	done(t, v, upload(1, idle()))
	if r := v.Do(start(1, 3)); !same(r, api.Reply{Rounds: 1, Top: ahead}) {
		t.Error(r)
	}
}
