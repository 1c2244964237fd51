package audit_test

import (
	"fmt"
	"slices"
	"sync"
	"testing"

	"tripwire/api"
	"tripwire/audit"
	"tripwire/venue"
)

// expectVenues tells whether a judge has what a venue has.
func expectVenues(t *testing.T, j *audit.Judge, v *venue.Venue) {
	t.Helper()
	if l := v.Do(book()).Orders; !slices.Equal(j.Orders(), l) {
		t.Fatalf("the orders are %+v; the venue's %+v", j.Orders(), l)
	}
	if j.Top() != v.Top() {
		t.Fatalf("the top is %+v; the venue's %+v", j.Top(), v.Top())
	}
	for client := -1; client <= api.MaxClients+1; client++ {
		if u := v.Do(quota(client)).Usage; j.Usage(client) != u {
			t.Fatalf("client %d has used %+v; by the venue %+v", client, j.Usage(client), u)
		}
	}
}

// T5: whatever commands come to a venue, a judge with its config finds no reply wrong, and has what the venue has.
func TestAVenueIsFoundRight(t *testing.T) {
	reached := map[string]int{}
	for seed := range uint64(1000) {
		d := long(seed + 100000)
		if seed%3 == 0 {
			d = drawn(seed + 100000)
		}
		j, lots := made(t, d.c), ledger{}
		d.play(t, 100, func(v *venue.Venue, s step) {
			expectSeen(t, j, s)
			expectVenues(t, j, v)
			lots.add(s.r)
			expectHolds(t, j, d.c, lots)
			count(reached, s)
			asked := []api.Command{book(), quota(1)}
			for _, id := range v.Strategies() {
				asked = append(asked, status(id))
			}
			for _, c := range asked {
				expectSeen(t, j, step{c, v.Do(c)})
			}
		})
	}
	for op := range 11 {
		expectReached(t, reached, 500, fmt.Sprint("done ", op+1))
	}
	expectReached(t, reached, 500, "refused", "event 1", "event 2", "event 3", "event 4", "event 5", "event 6", "event 7", "event 8")
	expectReached(t, reached, 200, "tell 2", "tell 3", "tell 4", "tell 5", "tell 6", "tell 7")
}

// count counts what a step has.
func count(reached map[string]int, s step) {
	if s.r.Err != ok {
		reached["refused"]++
		return
	}
	reached[fmt.Sprint("done ", s.c.Op)]++
	for _, x := range s.r.Told {
		if x.Tell == api.TellEvent {
			reached[fmt.Sprint("event ", x.Event.What)]++
		} else {
			reached[fmt.Sprint("tell ", x.Tell)]++
		}
	}
}

// Replies of strategies that fire, are refused, halt, fault and are cut off, written out.
func TestWhatStrategiesDo(t *testing.T) {
	for name, x := range map[string]struct {
		acts   int
		source string
		tells  []api.Tell
	}{
		"fires":          {100, "reg n int = 0; slot o; state a { when has ask && n < 1 do submit buy of 2q at ask limit as o, set n = n + 1; }", []api.Tell{1, 1, 2, 1, 1}},
		"is cut off":     {100, "state a { when has ask do submit buy of 1q at ask ioc; }", []api.Tell{1, 1, 2, 1, 1, 2, 1, 1, 2, 1, 1, 7}},
		"is refused":     {1, "reg n int = 0; state a { when has ask do submit buy of 1q at ask ioc, submit buy of 1q at ask ioc, set n = 1; }", []api.Tell{1, 1, 3}},
		"halts":          {100, "state a { when has ask do submit buy of 1q at ask ioc, halt; }", []api.Tell{1, 1, 2, 5, 1, 1}},
		"faults":         {100, "reg n int = 0; state a { when has ask && 1 / n > 1 do halt; }", []api.Tell{1, 1, 6}},
		"faults, begun":  {100, "reg n int = 0; state a { when has ask do submit buy of 1q at ask ioc, set n = 1 / n; }", []api.Tell{1, 1, 6}},
		"is rejected":    {100, "slot o; state a { when has ask do cancel o, submit sell of 0q at 5p post as o; }", []api.Tell{1, 1, 2, 4, 4}},
		"comes anew":     {100, "reg n int = 0; slot o; state a { when has ask && n == 0 do submit buy of 3q at 5p post as o, amend o to 2q at 5p, amend o to 9q at 6p, amend o to 1q at ask, set n = 1; }", []api.Tell{1, 1, 2, 1, 1, 1, 1, 1, 1, 1}},
		"takes its own":  {100, "reg n int = 0; state a { when has ask && n == 0 do submit buy of 3q at 5p post, submit sell of 1q at 5p limit, set n = 1; }", []api.Tell{1, 1, 2, 1, 1, 1, 1, 1}},
		"does not a bit": {100, "state a { }", []api.Tell{1, 1}},
	} {
		c := with(func(c *api.Config) { c.Acts = x.acts })
		v, no := venue.New(c)
		if no != ok {
			t.Fatal(no)
		}
		j := made(t, c)
		var tells []api.Tell
		for _, y := range []api.Command{upload(1, "strategy s { "+x.source+" }"), start(1, 1), sell(2, 10, 5), status(1), book(), quota(1), quota(2), tick(12), status(1), stop(1, 1), status(1), start(1, 1), stop(1, 1), drop(1, 1), status(1), upload(2, "strategy"), upload(2, "strategy s { state a {} }"), status(2), {Op: 77}} {
			s := step{y, v.Do(y)}
			expectSeen(t, j, s)
			expectVenues(t, j, v)
			if y.Op == api.OpEnter {
				for _, z := range s.r.Told {
					tells = append(tells, z.Tell)
				}
			}
		}
		if !slices.Equal(tells, x.tells) {
			t.Errorf("one that %s tells %v; want %v", name, tells, x.tells)
		}
	}
}

// spoiled are trades that are not the one that can be: at other prices, of other quantities, with other orders.
func spoiled(e api.Event, rest []api.Order) []api.Event {
	var l []api.Event
	for _, n := range []int64{-2, -1, 1, 2} {
		x := e
		x.Price += n
		l = append(l, x)
		x = e
		x.Qty += n
		l = append(l, x)
	}
	for _, o := range rest {
		if o.ID != e.Other {
			x := e
			x.Other, x.Holder = o.ID, o.Client
			l = append(l, x)
			x.Price, x.Qty = o.Price, min(e.Qty, o.Qty)
			l = append(l, x)
		}
	}
	return l
}

// A trade at another price, of another quantity, with another order than the one that has priority, is told, at its place.
func TestOtherTradesAreTold(t *testing.T) {
	tried := 0
	for seed := range uint64(600) {
		d := long(seed + 200000)
		all := d.script(t, 40)
		j := made(t, d.c)
		for k, s := range all {
			for at, x := range s.r.Told {
				if x.Event.What != api.Traded || d.below(4) > 0 {
					continue
				}
				for _, e := range spoiled(x.Event, j.Orders()) {
					other := made(t, d.c)
					expectSeen(t, other, all[:k]...)
					wrong := s.turned(func(s *step) { s.r.Told[at].Event = e })
					if why, place := other.Sees(wrong.c, wrong.r); why != badEvent || place != at {
						t.Fatalf("%+v for %+v: %d at %d", e, x.Event, why, place)
					}
					tried++
				}
			}
			expectSeen(t, j, s)
		}
	}
	if tried < 2000 {
		t.Errorf("only %d were tried", tried)
	}
}

// A trade that is left out, told twice, or told for another entry is told, too.
func TestTradesInTheirPlaces(t *testing.T) {
	for seed := range uint64(100) {
		d := long(seed + 300000)
		all := d.script(t, 40)
		for k, s := range all {
			at := slices.IndexFunc(s.r.Told, func(x api.Told) bool { return x.Event.What == api.Traded })
			if at < 0 {
				continue
			}
			for _, turn := range []func(s *step){
				func(s *step) { s.r.Told = slices.Delete(s.r.Told, at, at+1) },
				func(s *step) { s.r.Told[at].Event.ID++ },
				func(s *step) { s.r.Told[at].Event.Client++ },
				func(s *step) { s.r.Told[at].Event.Side = 3 - s.r.Told[at].Event.Side },
			} {
				j := made(t, d.c)
				expectSeen(t, j, all[:k]...)
				wrong := s.turned(turn)
				if why, place := j.Sees(wrong.c, wrong.r); why == ok || place != at {
					t.Fatalf("%+v\n%+v: %d at %d; want it told at %d", wrong.c, wrong.r, why, place, at)
				}
			}
		}
	}
}

// A judge of another config than the venue's finds what is over its own quotas, and is right about what is not.
func TestAnotherConfig(t *testing.T) {
	// Each number is one less than what the script needs.
	commands := []api.Command{upload(1, "strategy s { state a {} }"), sell(1, 10, 5), sell(1, 11, 5), buy(2, 10, 3)}
	all := steps(t, plain(), commands...)
	for _, x := range []struct {
		turn func(c *api.Config)
		k    int
		at   int
	}{
		{func(c *api.Config) { c.Strats = 0 }, 0, 0}, {func(c *api.Config) { c.Acts = 1 }, 2, 0}, {func(c *api.Config) { c.IDs = 2 }, 3, 0}, {func(c *api.Config) { c.Volume = 2 }, 3, 1},
		{func(c *api.Config) { c.Open = 1 }, 2, 1}, {func(c *api.Config) { c.Orders = 1 }, 2, 1}, {func(c *api.Config) { c.Levels = 1 }, 2, 1},
	} {
		j := made(t, with(x.turn))
		expectSeen(t, j, all[:x.k]...)
		expectWrong(t, j, all[x.k], badQuota, x.at)
	}
	c := with(func(c *api.Config) {
		c.Strats, c.Acts, c.IDs, c.Volume, c.Open, c.Orders, c.Levels, c.Rounds = 1, 2, 3, 3, 2, 2, 2, 0
	})
	expectSeen(t, made(t, c), all...)
	// What the rules of the market are, but for its clients, is not looked at.
	c.Rules = api.Rules{Clients: 3}
	expectSeen(t, made(t, c), all...)
}

// The greatest cascade that may be: 64 strategies, each of which fires in each of 16 rounds.
func TestTheGreatestCascade(t *testing.T) {
	c := with(func(c *api.Config) {
		c.Rules.Clients, c.Rounds, c.Strats, c.Acts, c.Orders, c.Open, c.Levels, c.IDs, c.Volume = 8, 16, 8, 1000000, 256, 256, 100, 1000000, 1000000
	})
	v, no := venue.New(c)
	if no != ok {
		t.Fatal(no)
	}
	j := made(t, c)
	do := func(x api.Command) api.Reply {
		r := v.Do(x)
		expectSeen(t, j, step{x, r})
		return r
	}
	for client := 1; client <= 8; client++ {
		for range 8 {
			id := do(upload(client, "strategy s { state a { when now == 1t do submit buy of 1q at 5p limit, submit sell of 1q at 5p limit, submit buy of 1q at 4p limit, submit sell of 1q at 6p limit, submit buy of 1q market, submit sell of 1q market, submit buy of 3q at 6p ioc, submit sell of 3q at 4p ioc; } }")).ID
			do(start(client, id))
		}
	}
	if r := do(tick(1)); r.Rounds != 16 || len(r.Told) < 16*64*9 {
		t.Error(r.Rounds, len(r.Told))
	}
	expectVenues(t, j, v)
}

// Judges side by side say what each says alone, in turn and at the same time (R4, R5).
func TestSideBySide(t *testing.T) {
	type said struct {
		e  api.Errno
		at int
		d  string
	}
	var scripts [][]step
	var configs []api.Config
	var alone [][]said
	says := func(j *audit.Judge, s step) said {
		e, at := j.Sees(s.c, s.r)
		return said{e, at, fmt.Sprint(seen(j))}
	}
	for seed := range uint64(12) {
		d := long(seed + 400000)
		all := d.script(t, 60)
		all[50+d.below(10)] = d.slipped(all[50])
		j := made(t, d.c)
		var l []said
		for _, s := range all {
			l = append(l, says(j, s))
		}
		scripts, configs, alone = append(scripts, all), append(configs, d.c), append(alone, l)
	}
	var judges []*audit.Judge
	for _, c := range configs {
		judges = append(judges, made(t, c))
	}
	for k := range 60 {
		for i, j := range judges {
			if is := says(j, scripts[i][k]); is != alone[i][k] {
				t.Fatalf("%+v; alone %+v", is, alone[i][k])
			}
		}
	}
	var wait sync.WaitGroup
	for i, all := range scripts {
		for range 2 {
			wait.Go(func() {
				j, _ := audit.New(configs[i])
				for k, s := range all {
					if is := says(j, s); is != alone[i][k] {
						t.Errorf("%+v; alone %+v", is, alone[i][k])
						return
					}
				}
			})
		}
	}
	wait.Wait()
}

// Far more orders than a venue has, at many prices, are judged, too: nothing of it hangs on a venue's limits.
func TestMany(t *testing.T) {
	c := with(func(c *api.Config) {
		c.Orders, c.Levels, c.Open, c.Acts, c.IDs = greatest, greatest, greatest, greatest, greatest
	})
	j := made(t, c)
	for k := range 600 {
		expectSeen(t, j, rests(k+1, 1, buys, int64(1000-k), most, api.Top{Bid: 1000}))
	}
	expectUsage(t, j, 1, api.Usage{Orders: 600, Lots: 600 * most, Acts: 600})
	if l := j.Orders(); len(l) != 600 || l[599] != order(600, 1, buys, 401, most) {
		t.Error(len(l))
	}
}
