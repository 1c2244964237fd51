package audit_test

import (
	"testing"

	"tripwire/api"
)

// actions are true steps of client 1 in the scene, each of which is one action; in whatever order they come.
func actions() []step {
	return []step{
		{amend(1, 1, 10, 2), api.Reply{Told: told(reduced(1, 1, sells, 10, 2, 5)), Top: sceneTop()}},
		{amend(1, 3, 12, 2), api.Reply{Told: told(amended(3, 1, sells, 12, 2, 3), rested(3, 1, sells, 12, 2)), Top: sceneTop()}},
		{cancel(1, 6), api.Reply{Told: told(withdrawn(6, 1, buys, 8, 1)), Top: sceneTop()}},
		{buy(1, 9, 3), api.Reply{ID: 7, Told: told(accepted(7, 1, buys, 9, 3), dropped(7, 1, buys, 9, 3)), Top: sceneTop()}},
	}
}

// Each kind of action counts, by hand and by a strategy, and TellReject does; client 1 has had 3 in the scene.
func TestActsOfEachKind(t *testing.T) {
	for _, s := range actions() {
		expectSeen(t, stagedBy(t, with(func(c *api.Config) { c.Acts = 4 })), s)
		expectWrong(t, stagedBy(t, with(func(c *api.Config) { c.Acts = 3 })), s, badQuota, 0)
		letOut := ticked(sceneTop(), fired(1))
		letOut.r.Told = append(letOut.r.Told, s.r.Told...)
		expectSeen(t, stagedBy(t, with(func(c *api.Config) { c.Acts = 4 })), letOut)
		expectWrong(t, stagedBy(t, with(func(c *api.Config) { c.Acts = 3 })), letOut, badQuota, 1)
	}
	expectSeen(t, stagedBy(t, with(func(c *api.Config) { c.Acts = 4 })), ticked(sceneTop(), fired(1), reject(1)))
	expectWrong(t, stagedBy(t, with(func(c *api.Config) { c.Acts = 3 })), ticked(sceneTop(), fired(1), reject(1)), badQuota, 1)
	// What is no action does not count.
	expectSeen(t, stagedBy(t, with(func(c *api.Config) { c.Acts = 3 })), ticked(sceneTop(), fired(1), refused(1), fired(1), fired(4), halted(1)))
}

// Actions add up, one behind the other, in one reply and in several, and of each client alone.
func TestActsAddUp(t *testing.T) {
	c := with(func(c *api.Config) { c.Acts = 7 })
	j := stagedBy(t, c)
	for n, s := range actions() {
		expectSeen(t, j, s)
		expectUsage(t, j, 1, api.Usage{Strats: 2, Orders: j.Usage(1).Orders, Lots: j.Usage(1).Lots, Acts: 4 + n})
	}
	if acts := j.Usage(2).Acts; acts != 1 {
		t.Error(acts)
	}
	expectSeen(t, j, ticked(sceneTop(), fired(4), reject(4), reject(4), reject(4), reject(4), reject(4)))
	if acts := j.Usage(3).Acts; acts != 7 {
		t.Error(acts)
	}
	expectWrong(t, j, ticked(sceneTop(), fired(1), reject(1)), badQuota, 1)
	j = stagedBy(t, c)
	expectSeen(t, j, ticked(sceneTop(), fired(1), reject(1), reject(1), reject(1), reject(1)))
	j = stagedBy(t, c)
	expectWrong(t, j, ticked(sceneTop(), fired(1), reject(1), reject(1), reject(1), reject(1), reject(1)), badQuota, 5)
	if acts := j.Usage(1).Acts; acts != 3 {
		t.Error(acts)
	}
}

// With Acts 0, and below, nobody may do anything.
func TestNoActs(t *testing.T) {
	for _, acts := range []int{least, -1, 0} {
		expectWrong(t, made(t, with(func(c *api.Config) { c.Acts = acts })), e(1), badQuota, 0)
	}
	expectSeen(t, made(t, with(func(c *api.Config) { c.Acts = 1 })), e(1))
}

// In another window nobody has had an action: in the window at hand all stay, however often time goes on in it.
func TestWindows(t *testing.T) {
	c := with(func(c *api.Config) { c.Acts = 3 })
	top := sceneTop()
	for _, x := range []struct {
		times []int64
		e     api.Errno
	}{
		{[]int64{1}, badQuota}, {[]int64{9}, badQuota}, {[]int64{2, 5, 9}, badQuota},
		{[]int64{10}, ok}, {[]int64{19}, ok}, {[]int64{9, 10}, ok}, {[]int64{100}, ok}, {[]int64{lastTime}, ok},
	} {
		j := stagedBy(t, c)
		for _, time := range x.times {
			expectSeen(t, j, step{tick(time), api.Reply{Top: top}})
		}
		s := rests(7, 1, sells, 12, 1, top)
		if x.e == ok {
			expectSeen(t, j, s, rests(8, 1, sells, 12, 1, top), rests(9, 1, sells, 12, 1, top))
			if acts := j.Usage(1).Acts; acts != 3 {
				t.Error(acts)
			}
			expectUsage(t, j, 2, api.Usage{Strats: 1, Orders: 1, Lots: 4})
			expectWrong(t, j, rests(10, 1, sells, 12, 1, top), badQuota, 0)
		} else {
			expectWrong(t, j, s, x.e, 0)
		}
	}
	// What a tick sets going counts in the window that it begins.
	j := stagedBy(t, c)
	expectSeen(t, j, step{tick(10), api.Reply{Told: told(fired(1), reject(1), reject(1), reject(1)), Rounds: 1, Top: top}})
	expectWrong(t, stagedBy(t, c), step{tick(10), api.Reply{Told: told(fired(1), reject(1), reject(1), reject(1), reject(1)), Rounds: 1, Top: top}}, badQuota, 4)
	// A window of the greatest length ends at MaxTime.
	c.Window = lastTime
	j = stagedBy(t, c)
	expectSeen(t, j, step{tick(lastTime - 1), api.Reply{Top: top}})
	if acts := j.Usage(1).Acts; acts != 3 {
		t.Error(acts)
	}
	expectSeen(t, j, step{tick(lastTime), api.Reply{Top: top}})
	if acts := j.Usage(1).Acts; acts != 0 {
		t.Error(acts)
	}
	// Of the least length it is each time's own.
	c.Window = 1
	j = stagedBy(t, c)
	expectUsage(t, j, 1, api.Usage{Strats: 2, Orders: 3, Lots: 9})
}

func TestIDs(t *testing.T) {
	for _, ids := range []int{6, 7, 8} {
		j := stagedBy(t, with(func(c *api.Config) { c.IDs = ids }))
		for id := 7; id <= ids; id++ {
			expectSeen(t, j, rests(id, 1, sells, 12, 1, sceneTop()))
		}
		// Amends give no number.
		expectSeen(t, j, actions()[1])
		expectWrong(t, j, rests(ids+1, 1, sells, 12, 1, sceneTop()), badQuota, 0)
	}
	for _, ids := range []int{least, -1, 0} {
		expectWrong(t, made(t, with(func(c *api.Config) { c.IDs = ids })), e(1), badQuota, 0)
	}
	// By a strategy, at its place.
	j := stagedBy(t, with(func(c *api.Config) { c.IDs = 7 }))
	expectWrong(t, j, ticked(sceneTop(), fired(1), accepted(7, 1, buys, 9, 1), dropped(7, 1, buys, 9, 1), accepted(8, 1, buys, 9, 1), dropped(8, 1, buys, 9, 1)), badQuota, 3)
}

func TestVolume(t *testing.T) {
	// Five lots are traded by the first trade, one more by the second.
	for volume, place := range []int{2, 2, 2, 2, 2, 3} {
		j := stagedBy(t, with(func(c *api.Config) { c.Volume = int64(volume) }))
		expectWrong(t, j, buysSome(), badQuota, place)
	}
	c := with(func(c *api.Config) { c.Volume = 6 })
	j := stagedBy(t, c)
	expectSeen(t, j, buysSome())
	// What was traded ahead counts.
	s := ticked(api.Top{Bid: 8, Ask: 10, Last: 10, Volume: 7}, fired(4), accepted(8, 3, buys, 10, 1), traded(8, 2, 3, 2, buys, 10, 1))
	expectWrong(t, j, s, badQuota, 2)
	// What yields is not traded.
	expectSeen(t, stagedBy(t, with(func(c *api.Config) { c.Volume = 4 })), buysAll())
	expectWrong(t, stagedBy(t, with(func(c *api.Config) { c.Volume = 3 })), buysAll(), badQuota, 3)
}

// Client 1 has three orders in the scene, client 3 two.
func TestOpen(t *testing.T) {
	s := rests(7, 1, sells, 12, 1, sceneTop())
	expectSeen(t, stagedBy(t, with(func(c *api.Config) { c.Open = 4 })), s)
	expectWrong(t, stagedBy(t, with(func(c *api.Config) { c.Open = 3 })), s, badQuota, 1)
	j := stagedBy(t, with(func(c *api.Config) { c.Open = 3 }))
	// One that comes anew was open already; what does not rest is not open.
	expectSeen(t, j, actions()[1], actions()[3])
	expectSeen(t, j, rests(8, 3, sells, 12, 1, sceneTop()))
	expectWrong(t, j, rests(9, 3, sells, 12, 1, sceneTop()), badQuota, 1)
	// Where an order has yielded, or has traded whole, there is room for another.
	expectSeen(t, stagedBy(t, with(func(c *api.Config) { c.Open = 3 })), buysAll())
	for _, open := range []int{least, -1, 0} {
		expectWrong(t, made(t, with(func(c *api.Config) { c.Open = open })), e(1), badQuota, 1)
	}
	// Only what rests is held against Open.
	for _, open := range []int{-1, 0} {
		expectSeen(t, made(t, with(func(c *api.Config) { c.Open = open })), step{buy(1, 9, 3), api.Reply{ID: 1, Told: told(accepted(1, 1, buys, 9, 3), dropped(1, 1, buys, 9, 3))}})
	}
}

// Six orders rest in the scene.
func TestOrders(t *testing.T) {
	for _, s := range []step{rests(7, 1, sells, 12, 1, sceneTop()), rests(7, 2, buys, 7, 1, sceneTop())} {
		expectSeen(t, stagedBy(t, with(func(c *api.Config) { c.Orders = 7 })), s)
		expectWrong(t, stagedBy(t, with(func(c *api.Config) { c.Orders = 6 })), s, badQuota, 1)
	}
	j := stagedBy(t, with(func(c *api.Config) { c.Orders = 6 }))
	expectSeen(t, j, actions()[1], actions()[0], actions()[3])
	expectSeen(t, stagedBy(t, with(func(c *api.Config) { c.Orders = 6 })), buysAll())
	expectSeen(t, stagedBy(t, with(func(c *api.Config) { c.Orders = 6 })), comesAnew())
	expectWrong(t, made(t, with(func(c *api.Config) { c.Orders = 0 })), e(1), badQuota, 1)
	expectSeen(t, made(t, with(func(c *api.Config) { c.Orders = 0 })), step{buy(1, 9, 3), api.Reply{ID: 1, Told: told(accepted(1, 1, buys, 9, 3), dropped(1, 1, buys, 9, 3))}})
}

// There are two prices on each side of the scene.
func TestLevels(t *testing.T) {
	two, three := with(func(c *api.Config) { c.Levels = 2 }), with(func(c *api.Config) { c.Levels = 3 })
	for _, x := range []struct {
		side  api.Side
		price int64
		top   api.Top
	}{{sells, 12, sceneTop()}, {sells, 9, api.Top{Bid: 8, Ask: 9}}, {buys, 6, sceneTop()}, {buys, 9, api.Top{Bid: 9, Ask: 10}}} {
		s := rests(7, 1, x.side, x.price, 1, x.top)
		expectSeen(t, stagedBy(t, three), s)
		expectWrong(t, stagedBy(t, two), s, badQuota, 1)
	}
	j := stagedBy(t, two)
	// At prices that are there already, and where one has gone.
	expectSeen(t, j, rests(7, 1, sells, 10, 1, sceneTop()), rests(8, 2, sells, 11, 1, sceneTop()), rests(9, 2, buys, 8, 1, sceneTop()), rests(10, 3, buys, 7, 1, sceneTop()))
	expectSeen(t, j, step{cancel(2, 8), api.Reply{Told: told(withdrawn(8, 2, sells, 11, 1)), Top: sceneTop()}}, actions()[1])
	expectSeen(t, stagedBy(t, two), comesAnew())
	expectWrong(t, stagedBy(t, two), buysAll(), badQuota, 5)
	expectWrong(t, made(t, with(func(c *api.Config) { c.Levels = 0 })), e(1), badQuota, 1)
	one := made(t, with(func(c *api.Config) { c.Levels = 1 }))
	expectSeen(t, one, e(1), rests(2, 2, buys, 9, 1, api.Top{Bid: 9, Ask: 10}), e(3).turned(func(s *step) { s.r.Top.Bid = 9 }))
	expectWrong(t, one, rests(4, 2, buys, 8, 1, api.Top{Bid: 9, Ask: 10}), badQuota, 1)
}

// Only an event that trades can be the one by which too much was traded: with a Volume below 0 it is the first of these, whatever came ahead of it.
func TestVolumeBelowNought(t *testing.T) {
	for _, volume := range []int64{least, -1} {
		c := with(func(c *api.Config) { c.Volume = volume })
		for _, s := range append(actions(), reduces(), withdraws(), drops(), ticked(sceneTop(), fired(1), reject(1))) {
			expectSeen(t, stagedBy(t, c), s)
		}
		yields := step{buy(1, 10, 3), api.Reply{ID: 2, Told: told(accepted(2, 1, buys, 10, 3), yielded(1, 2, 1, sells, 10, 5), rested(2, 1, buys, 10, 3)), Top: api.Top{Bid: 10}}}
		expectSeen(t, made(t, c), e(1), yields)
		expectWrong(t, stagedBy(t, c), buysSome(), badQuota, 2)
		expectWrong(t, stagedBy(t, c), buysAll(), badQuota, 3)
		expectWrong(t, stagedBy(t, c), comesAnew(), badQuota, 2)
		expectWrong(t, stagedBy(t, c), sellsAny(), badQuota, 2)
	}
}

// Only an event by which an order comes to rest can be the one by which too many rest, or at too many prices: with such a quota below 0 it is the first of these.
func TestRoomBelowNought(t *testing.T) {
	drops := func(id int) step {
		return step{buy(1, 9, 3), api.Reply{ID: id, Told: told(accepted(id, 1, buys, 9, 3), dropped(id, 1, buys, 9, 3))}}
	}
	for _, n := range []int{least, -1} {
		for _, turn := range []func(c *api.Config){func(c *api.Config) { c.Open = n }, func(c *api.Config) { c.Orders = n }, func(c *api.Config) { c.Levels = n }} {
			j := made(t, with(turn))
			expectSeen(t, j, step{tick(1), api.Reply{}}, drops(1), drops(2), step{book(), api.Reply{}})
			expectSeen(t, j, step{upload(1, "s"), api.Reply{ID: 1}}, step{start(1, 1), api.Reply{Rounds: 1}})
			expectSeen(t, j, ticked(api.Top{}, fired(1), accepted(3, 1, sells, 9, 3), dropped(3, 1, sells, 9, 3), reject(1)))
			expectWrong(t, j, ticked(api.Top{Bid: 9}, fired(1), accepted(4, 1, sells, 9, 3), dropped(4, 1, sells, 9, 3), accepted(5, 1, buys, 9, 3), rested(5, 1, buys, 9, 3)), badQuota, 4)
			for _, s := range []step{e(1), rests(1, 2, buys, 9, 1, api.Top{Bid: 9})} {
				expectWrong(t, made(t, with(turn)), s, badQuota, 1)
			}
		}
	}
}

// In the scene client 1 has two strategies, the others have one.
func TestStrats(t *testing.T) {
	top := sceneTop()
	uploads := func(client, id int) step { return step{upload(client, "s"), api.Reply{ID: id, Top: top}} }
	j := stagedBy(t, with(func(c *api.Config) { c.Strats = 3 }))
	expectSeen(t, j, uploads(1, 6))
	expectUsage(t, j, 1, api.Usage{Strats: 3, Orders: 3, Lots: 9, Acts: 3})
	expectSeen(t, j, uploads(2, 7), uploads(2, 8))
	// Where one is no more, there is room for another.
	expectSeen(t, j, step{drop(1, 3), api.Reply{Top: top}}, uploads(1, 9))
	expectWrong(t, j, uploads(1, 10), badQuota, 0)
	expectUsage(t, j, 1, api.Usage{Strats: 3, Orders: 3, Lots: 9, Acts: 3})
	j = stagedBy(t, with(func(c *api.Config) { c.Strats = 2 }))
	expectWrong(t, j, uploads(1, 6), badQuota, 0)
	for _, strats := range []int{least, -1, 0} {
		expectWrong(t, made(t, with(func(c *api.Config) { c.Strats = strats })), step{upload(1, "s"), api.Reply{ID: 1}}, badQuota, 0)
	}
	expectSeen(t, made(t, with(func(c *api.Config) { c.Strats = 1 })), step{upload(1, "s"), api.Reply{ID: 1}}, step{upload(3, "s"), api.Reply{ID: 2}})
}
