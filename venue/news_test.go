package venue_test

import (
	"testing"

	"tripwire/api"
	"tripwire/venue"
)

// hears counts its evaluations: each of them is news.
const hears = "strategy s { reg n int = 0; state a { when true do set n = n + 1; } }"

// heard is how often a strategy was evaluated since it was started, the first time left out.
func heard(t *testing.T, v *venue.Venue, id int) int64 {
	t.Helper()
	s, is := v.Stand(id)
	if !is {
		t.Fatalf("there is no %d", id)
	}
	return s.Regs[0] - 1
}

// What happens in the market by hand, and whether it is news to its client (strategy 1), to the other one (2), and to a third one (3), who has nothing to do with it.
func TestToWhomItIsNews(t *testing.T) {
	for _, x := range []struct {
		why   string
		ahead []api.Command
		c     api.Command
		news  [3]int64
	}{
		{"a new best price is news to all", nil, sell(1, 10, 5), [3]int64{1, 1, 1}},
		{"one behind the best is news to its client alone", []api.Command{sell(2, 10, 5)}, sell(1, 11, 5), [3]int64{1, 0, 0}},
		{"one at the best price, too", []api.Command{sell(2, 10, 5)}, sell(1, 10, 5), [3]int64{1, 0, 0}},
		{"what neither trades nor rests is news to nobody", []api.Command{sell(2, 10, 5)}, enter(1, api.Now, api.Buy, 9, 5), [3]int64{0, 0, 0}},
		{"a trade is news to all", []api.Command{sell(2, 10, 5)}, enter(1, api.Now, api.Buy, 10, 2), [3]int64{1, 1, 1}},
		{"one that yields behind the best, to its client alone", []api.Command{sell(2, 10, 5), sell(2, 10, 5), sell(1, 10, 3)}, cancel(1, 3), [3]int64{1, 0, 0}},
		{"one that is taken away and was the best, to all", []api.Command{sell(1, 10, 5)}, cancel(1, 1), [3]int64{1, 1, 1}},
		{"one of several at the best price, to its client alone", []api.Command{sell(1, 10, 5), sell(2, 10, 5)}, cancel(1, 1), [3]int64{1, 0, 0}},
		{"one that yields, and nothing trades: to all, as the best price is gone", []api.Command{sell(1, 10, 5)}, enter(1, api.Now, api.Buy, 10, 2), [3]int64{1, 1, 1}},
		{"one that is reduced, to its client alone", []api.Command{sell(1, 10, 5)}, amend(1, 1, 10, 4), [3]int64{1, 0, 0}},
		{"one that comes again with as much behind the best, to its client, though it sees the same", []api.Command{sell(2, 10, 5), sell(1, 11, 5)}, amend(1, 2, 12, 5), [3]int64{1, 0, 0}},
		{"one that comes again as the best, to all", []api.Command{sell(2, 10, 5), sell(1, 11, 5)}, amend(1, 2, 9, 5), [3]int64{1, 1, 1}},
	} {
		v := made(t, with(func(c *api.Config) { c.Rules.Clients = 3 }))
		for _, c := range x.ahead {
			done(t, v, c)
		}
		for client := 1; client <= 3; client++ {
			begun(t, v, client, hears)
		}
		r := done(t, v, x.c)
		var is [3]int64
		rounds := int64(0)
		for i := range is {
			is[i] = heard(t, v, i+1)
			rounds = max(rounds, x.news[i])
		}
		if is != x.news || int64(r.Rounds) != rounds {
			t.Errorf("%s: %v, in %d rounds", x.why, is, r.Rounds)
		}
	}
}

// What a strategy lets out is news as what comes by hand is: of one client, of two, to itself and to the other.
func TestWhatIsLetOutIsNews(t *testing.T) {
	for owner := 1; owner <= 2; owner++ {
		v := running(t, plain(), "strategy s { reg n int = 0; slot o; state a { when now == 1t && n == 0 do submit buy of 1q at 5p limit, set n = 1; } }")
		id := begun(t, v, owner, hears)
		// The time is news to both; what 1 lets out then, too.
		r := saying(t, v, tick(1), 2, "fired 1 0, fired 2 0, accepted 1 5 1, rested 1 5 1, fired 2 0")
		if n := heard(t, v, id); n != 2 || r.Top.Bid != 5 {
			t.Error(n, r)
		}
		if s, _ := v.Stand(id); s.Snap != (api.Snap{Bid: 5, Now: 1, Open: int64(2 - owner)}) {
			t.Error(s)
		}
	}
}

// An order behind the best, let out by a strategy, is news to all of its client's strategies that run and to no other client's.
func TestWhatIsLetOutBehindTheBest(t *testing.T) {
	v := made(t, with(func(c *api.Config) { c.Strats = 4 }))
	done(t, v, buy(2, 9, 1))
	begun(t, v, 1, one("when now == 1t && n == 0 do submit buy of 1q at 5p limit, set n = 1;"))
	begun(t, v, 1, hears)
	begun(t, v, 2, hears)
	done(t, v, stop(1, begun(t, v, 1, hears)))
	saying(t, v, tick(1), 2, "fired 1 0, fired 2 0, fired 3 0, accepted 2 5 1, rested 2 5 1, fired 2 0")
	if a, b, c := heard(t, v, 2), heard(t, v, 3), heard(t, v, 4); a != 2 || b != 1 || c != 0 {
		t.Error(a, b, c)
	}
}

// An action that is refused is no news.
func TestWhatIsRejectedIsNoNews(t *testing.T) {
	v := running(t, plain(), one("when true do cancel o;"), hears)
	saying(t, v, tick(1), 1, "fired 1 0, fired 2 0, reject 1 0 90")
}

// Several calls of the engine in one round are one evaluation more, of all that they are together.
func TestNewsAddsUp(t *testing.T) {
	v := running(t, plain(), one("when now == 1t && n == 0 do submit buy of 1q at 5p limit, submit buy of 1q at 6p limit, submit sell of 2q at 9p limit, set n = 1;"), hears)
	three := begun(t, v, 2, hears)
	done(t, v, tick(1))
	for _, id := range []int{2, three} {
		if n := heard(t, v, id); n != 2 {
			t.Errorf("%d was evaluated %d times", id, n)
		}
	}
	if s, _ := v.Stand(three); s.Snap != (api.Snap{Bid: 6, Ask: 9, Now: 1}) {
		t.Error(s)
	}
	if s, _ := v.Stand(2); s.Snap != (api.Snap{Bid: 6, Ask: 9, Now: 1, Open: 4}) {
		t.Error(s)
	}
}

// One that ends in a round hears nothing of what is let out in it, its own actions neither.
func TestWhoEndsHearsNothing(t *testing.T) {
	v := running(t, with(func(c *api.Config) { c.Strats = 4 }), one("when now == 1t do submit buy of 1q at 5p limit as o, set n = 2, halt;"), "strategy s { state a { when now == 1t && 1 / (int(now) - 1) > 0 do halt; } }", hears)
	saying(t, v, tick(1), 2, "fired 1 0, halted 1, faulted 2 11, fired 3 0, accepted 1 5 1, rested 1 5 1, fired 3 0")
	expectStand(t, v, stand(1, api.Halted, 2, 1, 0, api.Snap{Now: 1}))
	expectStand(t, v, api.Standing{ID: 2, Client: 1, Status: api.Faulted, Code: api.ErrZero, Snap: api.Snap{Now: 1}})
	expectStand(t, v, api.Standing{ID: 3, Client: 1, Status: api.Running, Regs: []int64{3}, Snap: api.Snap{Bid: 5, Now: 1, Open: 1}})
}

// Two strategies of two clients, each of whose actions is news to the other: one hands out what the other takes.
func TestTwoInTurn(t *testing.T) {
	v := made(t, with(func(c *api.Config) { c.Rounds = 16 }))
	begun(t, v, 1, one("when has ask && n < 3 do submit buy of 1q at ask ioc, set n = n + 1;"))
	begun(t, v, 2, one("when !has ask && now > 0t && n < 3 do submit sell of 1q at 10p post as o, set n = n + 1;"))
	saying(t, v, tick(1), 7, "fired 2 0, accepted 1 10 1, rested 1 10 1, "+
		"fired 1 0, accepted 2 10 1, traded 2 1 10 1, "+
		"fired 2 0, accepted 3 10 1, rested 3 10 1, "+
		"fired 1 0, accepted 4 10 1, traded 4 3 10 1, "+
		"fired 2 0, accepted 5 10 1, rested 5 10 1, "+
		"fired 1 0, accepted 6 10 1, traded 6 5 10 1")
	expectStand(t, v, stand(1, api.Running, 3, 0, 0, api.Snap{Last: 10, Volume: 3, Now: 1}))
	want := stand(2, api.Running, 3, 5, 0, api.Snap{Last: 10, Volume: 3, Now: 1})
	want.Client = 2
	expectStand(t, v, want)
	expectActs(t, v, 1, 3)
	expectActs(t, v, 2, 3)
}

// The same with both of one client: its own order yields to it, and is not traded.
func TestTwoOfOneClient(t *testing.T) {
	v := running(t, plain(), one("when has ask && n < 1 do submit buy of 1q at ask ioc, set n = n + 1;"), one("when !has ask && now > 0t && n < 1 do submit sell of 1q at 10p post as o, set n = n + 1;"))
	saying(t, v, tick(1), 3, "fired 2 0, accepted 1 10 1, rested 1 10 1, fired 1 0, accepted 2 10 1, yielded 1 10 1, dropped 2 10 1")
	expectOrders(t, v)
	expectActs(t, v, 1, 2)
}
