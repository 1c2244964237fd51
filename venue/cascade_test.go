package venue_test

import (
	"fmt"
	"strings"
	"testing"

	"tripwire/api"
)

// Evaluations come by rising numbers, and all of them ahead of any action; actions come in the order of the evaluations, and of each firing in its own.
func TestTheOrderOfARound(t *testing.T) {
	c := with(func(c *api.Config) { c.Rules.Clients, c.Strats = 3, 4 })
	v := made(t, c)
	two := func(price int) string {
		return one(fmt.Sprintf("when now == 1t && n == 0 do submit buy of 1q at %dp post as o, submit buy of 1q at %dp post as u, set n = 1;", price, price+1))
	}
	for i, client := range []int{3, 1, 2, 1} {
		begun(t, v, client, two(10*(i+1)))
	}
	r := saying(t, v, tick(1), 2, "fired 1 0, fired 2 0, fired 3 0, fired 4 0, "+
		"accepted 1 10 1, rested 1 10 1, accepted 2 11 1, rested 2 11 1, accepted 3 20 1, rested 3 20 1, accepted 4 21 1, rested 4 21 1, "+
		"accepted 5 30 1, rested 5 30 1, accepted 6 31 1, rested 6 31 1, accepted 7 40 1, rested 7 40 1, accepted 8 41 1, rested 8 41 1")
	for i, client := range []int{3, 1, 2, 1} {
		for k := range 4 {
			if x := r.Told[4+4*i+k].Event; x.Client != client {
				t.Errorf("%+v is not client %d's", x, client)
			}
		}
		if s, _ := v.Stand(i + 1); s.Slots[0] != 2*i+1 || s.Slots[1] != 2*i+2 {
			t.Error(s)
		}
	}
}

// Numbers above nine do not come ahead of lesser ones.
func TestTheOrderOfMany(t *testing.T) {
	v := made(t, with(func(c *api.Config) { c.Rules.Clients, c.Strats = 8, 8 }))
	var want []string
	for n := range 64 {
		begun(t, v, 1+(3*n)%8, hears)
		want = append(want, fmt.Sprintf("fired %d 0", n+1))
	}
	saying(t, v, tick(1), 1, strings.Join(want, ", "))
}

// What a firing is: refused, a rule that fires, none, one that halts, one that faults; each with its rule.
func TestWhatIsToldOfAFiring(t *testing.T) {
	v := made(t, with(func(c *api.Config) { c.Strats, c.Acts = 8, 2 }))
	state := func(rule string) string {
		return "strategy s { reg n int = 0; slot o; state a { when now > 1t do halt; when n > 5 do halt; when now == 1t do " + rule + "; when now == 1t do halt; } state b {} }"
	}
	for _, rule := range []string{"cancel o, cancel o, cancel o", "set n = 1", "set n = 1, goto b", "cancel o, halt", "set n = 1 / n", "cancel o, set n = 9223372036854775807 + now / 1t", "halt"} {
		begun(t, v, 1, state(rule))
	}
	begun(t, v, 1, "strategy s { state a {} }")
	r := saying(t, v, tick(1), 1, "refused 1 2, fired 2 2, fired 3 2, fired 4 2, halted 4, faulted 5 11, faulted 6 10, fired 7 2, halted 7, reject 4 0 90")
	// Guards: now > 1t, n > 5, now == 1t: 9 steps each; bodies: 0, 1, 1, 0, 3, 5, 0. Some guards were known from the start: n > 5 (3), and all others read now.
	if r.Steps != 7*6+0+1+1+0+3+5+0 {
		t.Errorf("%d steps", r.Steps)
	}
	want := []api.Standing{
		{ID: 1, Status: api.Running}, {ID: 2, Status: api.Running, Regs: []int64{1}}, {ID: 3, Status: api.Running, State: 1, Regs: []int64{1}}, {ID: 4, Status: api.Halted},
		{ID: 5, Status: api.Faulted, Code: api.ErrZero}, {ID: 6, Status: api.Faulted, Code: api.ErrOver}, {ID: 7, Status: api.Halted},
	}
	for _, s := range want {
		s.Client, s.Slots, s.Snap = 1, []int{0}, api.Snap{Now: 1}
		if s.Regs == nil {
			s.Regs = []int64{0}
		}
		expectStand(t, v, s)
	}
	// One action alone was granted, though the market refused it.
	expectActs(t, v, 1, 1)
}

// A firing of n actions is granted, if n are left, and not if fewer are; by rising numbers, each of what those ahead of it left.
func TestGrants(t *testing.T) {
	for acts := range 12 {
		v := made(t, with(func(c *api.Config) { c.Strats, c.Acts = 4, acts }))
		for n := 1; n <= 4; n++ {
			begun(t, v, 1, one("when now == 1t && n == 0 do "+strings.Repeat("cancel o, ", n)+"set n = 1;"))
		}
		five := begun(t, v, 2, one("when now == 1t && n == 0 do cancel o, set n = 1;"))
		left := acts
		var told, rejects []string
		fired := map[int]int64{}
		for n := 1; n <= 4; n++ {
			if n > left {
				told = append(told, fmt.Sprintf("refused %d 0", n))
				continue
			}
			left -= n
			fired[n] = 1
			told = append(told, fmt.Sprintf("fired %d 0", n))
			for k := range n {
				rejects = append(rejects, fmt.Sprintf("reject %d %d 90", n, k))
			}
		}
		// Another client's actions are its own.
		if acts > 0 {
			fired[five] = 1
			told, rejects = append(told, "fired 5 0"), append(rejects, "reject 5 0 90")
		} else {
			told = append(told, "refused 5 0")
		}
		saying(t, v, tick(1), 1, strings.Join(append(told, rejects...), ", "))
		for id := 1; id <= 5; id++ {
			if s, _ := v.Stand(id); s.Status != api.Running || s.Regs[0] != fired[id] {
				t.Errorf("of %d actions: %+v", acts, s)
			}
		}
		expectActs(t, v, 1, acts-left)
		expectActs(t, v, 2, min(acts, 1))
	}
}

// The action of a command is taken ahead of its cascade's.
func TestACommandsActionComesFirst(t *testing.T) {
	v := running(t, with(func(c *api.Config) { c.Acts = 2 }), one("when has bid do cancel o, cancel o;"))
	saying(t, v, buy(1, 5, 1), 1, "accepted 1 5 1, rested 1 5 1, refused 1 0")
	v = running(t, with(func(c *api.Config) { c.Acts = 2 }), one("when has bid do cancel o;"))
	saying(t, v, buy(1, 5, 1), 1, "accepted 1 5 1, rested 1 5 1, fired 1 0, reject 1 0 90")
	expectRefused(t, v, buy(1, 5, 1), noActs)
}

// Actions that were granted are taken, whatever the market says of them; a rule without an action needs none.
func TestWithoutActionsLeft(t *testing.T) {
	v := running(t, with(func(c *api.Config) { c.Acts = 1 }), one("when n == 0 do cancel o, set n = 1; when true do set n = n + 1;"))
	expectStand(t, v, stand(1, api.Running, 1, 0, 0, api.Snap{}))
	expectActs(t, v, 1, 1)
	expectRefused(t, v, buy(1, 5, 1), noActs)
	saying(t, v, tick(1), 1, "fired 1 1")
	expectStand(t, v, stand(1, api.Running, 2, 0, 0, api.Snap{Now: 1}))
}

// What is refused for want of actions is asked again with the next news, and granted when there is room.
func TestRefusedRunsOn(t *testing.T) {
	v := running(t, with(func(c *api.Config) { c.Acts = 2 }), "strategy s { reg n int = 0; slot o; state a { when has ask do submit buy of 1q at 2p post as o, cancel o, set n = 1, goto b; } state b { when true do halt; } }")
	done(t, v, enter(1, api.Now, api.Buy, 5, 1))
	saying(t, v, sell(2, 10, 1), 1, "accepted 2 10 1, rested 2 10 1, refused 1 0")
	saying(t, v, tick(1), 1, "refused 1 0")
	expectStand(t, v, api.Standing{ID: 1, Client: 1, Status: api.Running, Regs: []int64{0}, Slots: []int{0}, Snap: api.Snap{Ask: 10, Now: 1}})
	expectActs(t, v, 1, 1)
	saying(t, v, tick(10), 2, "fired 1 0, accepted 3 2 1, rested 3 2 1, withdrawn 3 2 1, fired 1 0, halted 1")
	expectStand(t, v, api.Standing{ID: 1, Client: 1, Status: api.Halted, State: 1, Regs: []int64{1}, Slots: []int{3}, Snap: api.Snap{Ask: 10, Now: 10}})
}

// What an action is: each kind of a submit, with a slot and without; an amend; a cancel; and what the market or the quota refuses.
func TestActions(t *testing.T) {
	for _, x := range []struct {
		rule, told string
		rounds     int
		o, u       int
	}{
		{"submit buy of 2q at 10p limit as o", "fired 1 0, accepted 3 10 2, traded 3 1 10 2", 2, 3, 0},
		{"submit buy of 7q at 10p limit as u", "fired 1 0, accepted 3 10 7, traded 3 1 10 5, rested 3 10 2", 2, 0, 3},
		{"submit buy of 7q at 10p limit", "fired 1 0, accepted 3 10 7, traded 3 1 10 5, rested 3 10 2", 2, 0, 0},
		{"submit buy of 7q at 10p ioc as o", "fired 1 0, accepted 3 10 7, traded 3 1 10 5, dropped 3 10 2", 2, 3, 0},
		{"submit buy of 5q at 10p fok as o", "fired 1 0, accepted 3 10 5, traded 3 1 10 5", 2, 3, 0},
		{"submit buy of 6q at 10p fok as o", "fired 1 0, reject 1 0 81", 1, 0, 0},
		{"submit sell of 6q market as u", "fired 1 0, accepted 3 0 6, traded 3 2 5 5, dropped 3 0 1", 2, 0, 3},
		{"submit buy of 1q at 9p post as o", "fired 1 0, accepted 3 9 1, rested 3 9 1", 2, 3, 0},
		{"submit buy of 1q at 10p post as o", "fired 1 0, reject 1 0 80", 1, 0, 0},
		{"submit sell of 1q at 6p ioc as o", "fired 1 0, accepted 3 6 1, dropped 3 6 1", 1, 3, 0},
		{"submit buy of 0q at 9p post as o", "fired 1 0, reject 1 0 74", 1, 0, 0},
		{"submit buy of 101q at 9p post as o", "fired 1 0, reject 1 0 74", 1, 0, 0},
		{"submit buy of 1q at 0p post as o", "fired 1 0, reject 1 0 75", 1, 0, 0},
		{"submit buy of 1q at 1p - 5p post as o", "fired 1 0, reject 1 0 75", 1, 0, 0},
		{"submit buy of 1q at 101p ioc as o", "fired 1 0, reject 1 0 75", 1, 0, 0},
		{"submit buy of 1q at 9223372036854775807p ioc", "fired 1 0, reject 1 0 75", 1, 0, 0},
		{"cancel o", "fired 1 0, reject 1 0 90", 1, 0, 0},
		{"amend u to 1q at 5p", "fired 1 0, reject 1 0 90", 1, 0, 0},
		{"submit buy of 2q at 9p post as o, cancel o", "fired 1 0, accepted 3 9 2, rested 3 9 2, withdrawn 3 9 2", 2, 3, 0},
		{"submit buy of 2q at 9p post as o, cancel u, cancel o, cancel o", "fired 1 0, accepted 3 9 2, rested 3 9 2, reject 1 1 90, withdrawn 3 9 2, reject 1 3 90", 2, 3, 0},
		{"submit buy of 2q at 9p post as o, amend o to 1q at 9p", "fired 1 0, accepted 3 9 2, rested 3 9 2, reduced 3 9 1", 2, 3, 0},
		{"submit buy of 2q at 9p post as u, amend u to 4q at 10p", "fired 1 0, accepted 3 9 2, rested 3 9 2, amended 3 10 4, traded 3 1 10 4", 2, 0, 3},
		{"submit buy of 2q at 9p post as o, amend o to 2q at 9p, amend o to 0q at 9p, amend o to 2q at 101p", "fired 1 0, accepted 3 9 2, rested 3 9 2, reject 1 1 92, reject 1 2 74, reject 1 3 75", 2, 3, 0},
		{"submit buy of 2q at 9p post as o, submit buy of 1q at 10p post as o, submit buy of 3q at 8p post as o, amend o to 1q at 8p", "fired 1 0, accepted 3 9 2, rested 3 9 2, reject 1 1 80, accepted 4 8 3, rested 4 8 3, reduced 4 8 1", 2, 4, 0},
		{"set n = 2, submit buy of 2q at 9p post as o, submit buy of 3q at 8p post as u, cancel o, goto a", "fired 1 0, accepted 3 9 2, rested 3 9 2, accepted 4 8 3, rested 4 8 3, withdrawn 3 9 2", 2, 3, 4},
		{"cancel o, cancel u, submit buy of 1q at 9p limit as u, halt", "fired 1 0, halted 1, reject 1 0 90, reject 1 1 90, accepted 3 9 1, rested 3 9 1", 1, 0, 3},
	} {
		v := made(t, plain())
		done(t, v, sell(2, 10, 5))
		done(t, v, buy(2, 5, 5))
		begun(t, v, 1, one("when now == 1t && n == 0 do set n = 1, "+x.rule+";"))
		r := saying(t, v, tick(1), x.rounds, x.told)
		if s, _ := v.Stand(1); s.Slots[0] != x.o || s.Slots[1] != x.u {
			t.Errorf("%q: the slots are %v", x.rule, s.Slots)
		}
		actions := strings.Count(x.rule, "submit") + strings.Count(x.rule, "amend") + strings.Count(x.rule, "cancel")
		expectActs(t, v, 1, actions)
		for _, y := range r.Told {
			if y.Event.What == api.Accepted && y.Event.Client != 1 {
				t.Error(y)
			}
		}
	}
}

// With Open orders open a strategy's Limit and Post entries are refused as by hand, ahead of the market's word; others are not.
func TestOpenOrdersOfStrategies(t *testing.T) {
	c := with(func(c *api.Config) { c.Open = 2 })
	v := running(t, c, one("when now == 1t do submit buy of 1q at 2p limit as o, submit buy of 1q at 3p post as u, submit buy of 1q at 4p limit as o, submit buy of 0q at 0p post as o, submit buy of 1q at 1p ioc, submit sell of 1q market, cancel o, submit buy of 1q at 5p limit as o;"))
	saying(t, v, tick(1), 3, "fired 1 0, accepted 1 2 1, rested 1 2 1, accepted 2 3 1, rested 2 3 1, reject 1 2 221, reject 1 3 221, accepted 3 1 1, dropped 3 1 1, "+
		"accepted 4 0 1, yielded 2 3 1, yielded 1 2 1, dropped 4 0 1, reject 1 6 90, accepted 5 5 1, rested 5 5 1, "+
		"fired 1 0, accepted 6 2 1, rested 6 2 1, reject 1 1 221, reject 1 2 221, reject 1 3 221, accepted 7 1 1, dropped 7 1 1, "+
		"accepted 8 0 1, yielded 5 5 1, yielded 6 2 1, dropped 8 0 1, reject 1 6 90, accepted 9 5 1, rested 9 5 1, "+
		"fired 1 0, accepted 10 2 1, rested 10 2 1, reject 1 1 221, reject 1 2 221, reject 1 3 221, accepted 11 1 1, dropped 11 1 1, "+
		"accepted 12 0 1, yielded 9 5 1, yielded 10 2 1, dropped 12 0 1, reject 1 6 90, accepted 13 5 1, rested 13 5 1, cutoff")
	v = running(t, with(func(c *api.Config) { c.Open = 0 }), one("when now == 1t do submit buy of 1q at 2p limit as o;"))
	saying(t, v, tick(1), 1, "fired 1 0, reject 1 0 221")
	expectActs(t, v, 1, 1)
}

// A strategy's actions are its client's: its orders may be cancelled and amended by hand, its open ones are counted, and its entries do not trade with its client's own.
func TestActionsAreTheClients(t *testing.T) {
	v := made(t, plain())
	id := begun(t, v, 2, one("when now == 1t && n == 0 do submit buy of 2q at 5p post as o, set n = 1; when now == 2t && n == 1 do cancel o, set n = 2;"))
	done(t, v, tick(1))
	expectOrders(t, v, order(1, 2, api.Buy, 5, 2))
	expectUsage(t, v, 2, api.Usage{Strats: 1, Orders: 1, Lots: 2, Acts: 1})
	expectRefused(t, v, cancel(1, 1), api.ErrEngineOwner)
	saying(t, v, sell(2, 5, 1), 1, "accepted 2 5 1, yielded 1 5 2, rested 2 5 1")
	saying(t, v, tick(2), 1, "fired 1 1, reject 1 0 90")
	if s, _ := v.Stand(id); s.Slots[0] != 1 || s.Snap.Open != 1 {
		t.Error(s)
	}
}

// cut is how a strategy that fires n times, each time with news behind it, goes through a cascade.
func cut(rounds, n int) (string, int) {
	var told []string
	for k := range min(rounds, n) {
		told = append(told, fmt.Sprintf("fired 1 0, accepted %d 5 1, rested %d 5 1", k+1, k+1))
	}
	if n >= rounds {
		return strings.Join(append(told, "cutoff"), ", "), rounds
	}
	return strings.Join(told, ", "), n + 1
}

// Cascades that end by themselves, in the last round that may be, and by TellCutoff; with the snapshot behind each.
func TestHowCascadesEnd(t *testing.T) {
	for rounds := 1; rounds <= 16; rounds++ {
		for n := range 19 {
			v := running(t, with(func(c *api.Config) { c.Rounds, c.Orders, c.Open = rounds, 64, 64 }), one(fmt.Sprintf("when now == 1t && n < %d do submit buy of 1q at 5p limit, set n = n + 1;", n)))
			told, want := cut(rounds, n)
			saying(t, v, tick(1), want, told)
			w := api.Snap{Now: 1, Open: int64(min(rounds, n))}
			if n > 0 {
				w.Bid = 5
			}
			expectStand(t, v, stand(1, api.Running, int64(min(rounds, n)), 0, 0, w))
			// Nothing is still to be fed: without news it stays.
			saying(t, v, tick(1), 0, "")
		}
	}
}

// A firing in the last round without news behind it ends a cascade without a cutoff.
func TestTheLastRoundIsEnough(t *testing.T) {
	v := running(t, with(func(c *api.Config) { c.Rounds = 1 }), one("when now == 1t do set n = 1;"))
	saying(t, v, tick(1), 1, "fired 1 0")
	v = running(t, with(func(c *api.Config) { c.Rounds = 1 }), one("when now == 1t do submit buy of 1q at 5p ioc;"))
	saying(t, v, tick(1), 1, "fired 1 0, accepted 1 5 1, dropped 1 5 1")
	v = running(t, with(func(c *api.Config) { c.Rounds = 1 }), one("when now == 1t do submit buy of 1q at 5p limit, halt;"))
	saying(t, v, tick(1), 1, "fired 1 0, halted 1, accepted 1 5 1, rested 1 5 1")
}

// Behind the last round all that have news are fed, and TellCutoff is told once; what was fed so sets a rule going with the next news alone.
func TestCutOff(t *testing.T) {
	v := made(t, with(func(c *api.Config) { c.Rounds, c.Strats = 2, 4 }))
	begun(t, v, 1, one("when now > 0t && n < 4 do submit buy of 1q at 5p limit, set n = n + 1;"))
	begun(t, v, 2, "strategy s { reg n int = 0; state a { when has bid do halt; } }")
	begun(t, v, 1, "strategy s { reg n int = 0; state a { when open > 1q do set n = n + 1; } }")
	begun(t, v, 2, hears)
	r := saying(t, v, tick(1), 2, "fired 1 0, fired 4 0, accepted 1 5 1, rested 1 5 1, fired 1 0, fired 2 0, halted 2, fired 4 0, accepted 2 5 1, rested 2 5 1, cutoff")
	if r.Top.Bid != 5 {
		t.Error(r)
	}
	expectStand(t, v, stand(1, api.Running, 2, 0, 0, api.Snap{Bid: 5, Now: 1, Open: 2}))
	expectStand(t, v, api.Standing{ID: 2, Client: 2, Status: api.Halted, Regs: []int64{0}, Snap: api.Snap{Bid: 5, Now: 1}})
	expectStand(t, v, api.Standing{ID: 3, Client: 1, Status: api.Running, Regs: []int64{0}, Snap: api.Snap{Bid: 5, Now: 1, Open: 2}})
	saying(t, v, start(2, 2), 1, "fired 2 0, halted 2")
	saying(t, v, tick(2), 2, "fired 1 0, fired 3 0, fired 4 0, accepted 3 5 1, rested 3 5 1, fired 1 0, fired 3 0, accepted 4 5 1, rested 4 5 1, cutoff")
	saying(t, v, tick(3), 1, "fired 3 0, fired 4 0")
}

// The steps of a reply are those of all evaluations, of all rounds: with guards that are known, only what is run.
func TestSteps(t *testing.T) {
	v := running(t, with(func(c *api.Config) { c.Rounds = 5 }), one("when now == 1t && n < 3 do submit buy of 1q at 5p limit, set n = n + 1;"), "strategy s { state a { when has bid && bid > 9p do halt; when open > 3q do halt; } }")
	r := done(t, v, tick(1))
	// The first: now == 1t && n < 3 (7 steps), and a body of 3 + 3; n changes, so it is run each time: 13, 13, 13, 7.
	// The second: at the start 2 + 3; at the tick nothing that it reads; then bid (5) and open (3), then open alone, twice.
	if want := 13*3 + 7 + 8 + 3 + 3; r.Steps != want || r.Rounds != 4 {
		t.Errorf("%d steps in %d rounds; want %d", r.Steps, r.Rounds, want)
	}
}
