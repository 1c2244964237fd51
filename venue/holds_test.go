package venue_test

import (
	"fmt"
	"sync"
	"testing"

	"tripwire/api"
	"tripwire/engine"
	"tripwire/lower"
	"tripwire/venue"
)

// T4: what is refused leaves all as it was: so nothing can be told from a venue that was never asked.
func TestRefusedIsNotDone(t *testing.T) {
	reached := map[string]int{}
	for seed := range uint64(250) {
		d := long(seed + 300000)
		if seed%2 == 0 {
			d = drawn(seed + 300000)
		}
		v, without := made(t, d.c), made(t, d.c)
		ahead := seen(v)
		for range 100 {
			c := d.command(ahead)
			r := v.Do(c)
			behind := seen(v)
			if r.Err == api.OK {
				if want := without.Do(c); !same(r, want) {
					t.Fatalf("%+v\n%+v is\n%+v; without what was refused\n%+v", d.c, c, r, want)
				}
				ahead = behind
				continue
			}
			reached[r.Err.Error()]++
			if !same(r, api.Reply{Err: r.Err, At: r.At}) || r.At != 0 && c.Op != api.OpUpload {
				t.Fatalf("%+v is refused by %+v", c, r)
			}
			if !same(ahead, behind) {
				t.Fatalf("%+v\n%+v was refused, and changed\n%+v to\n%+v", d.c, c, ahead, behind)
			}
		}
		if !same(seen(v), seen(without)) {
			t.Fatalf("%+v; without what was refused %+v", seen(v), seen(without))
		}
	}
	expectReached(t, reached, 10, "error 220", "error 221", "error 222", "error 231", "error 232", "error 233", "error 234", "error 235", "error 236", "error 237", "error 90", "error 75", "error 81", "error 130")
}

// T5: who sees replies alone finds each trade with the best order that rests, at its price, no lots lost, and nobody over quota.
func TestAJudgeFindsNothingWrong(t *testing.T) {
	for seed := range uint64(400) {
		d := long(seed + 400000)
		if seed%3 == 0 {
			d = drawn(seed + 400000)
		}
		v, j := made(t, d.c), newJudge(d.c)
		for range 100 {
			c := d.command(seen(v))
			if wrong := j.sees(c, v.Do(c)); wrong != "" {
				t.Fatalf("%+v\n%+v: %s", d.c, c, wrong)
			}
		}
		if wrong := j.sees(book(), v.Do(book())); wrong != "" {
			t.Fatal(wrong)
		}
	}
}

// The judge of these tests does find what is wrong.
func TestTheJudgeFindsWhatIsWrong(t *testing.T) {
	for name, turn := range map[string]func(r *api.Reply){
		"another price":    func(r *api.Reply) { r.Told[1].Event.Price++ },
		"another quantity": func(r *api.Reply) { r.Told[1].Event.Qty-- },
		"another order":    func(r *api.Reply) { r.Told[1].Event.Other = 2 },
		"another client":   func(r *api.Reply) { r.Told[1].Event.Holder = 2 },
		"no end":           func(r *api.Reply) { r.Told = r.Told[:1] },
		"another number":   func(r *api.Reply) { r.Told[0].Event.ID = 9 },
		"another top":      func(r *api.Reply) { r.Top.Last++ },
	} {
		j, v := newJudge(plain()), made(t, plain())
		for _, c := range []api.Command{sell(1, 10, 5), sell(1, 10, 5)} {
			if wrong := j.sees(c, v.Do(c)); wrong != "" {
				t.Fatal(wrong)
			}
		}
		c := buy(2, 10, 3)
		r := v.Do(c)
		turn(&r)
		if j.sees(c, r) == "" {
			t.Error(name)
		}
	}
}

// bound is how many steps and actions the strategies of a venue may have in one round.
func bound(costs map[int]api.Cost) api.Cost {
	var sum api.Cost
	for _, c := range costs {
		sum.Steps += c.Steps
		sum.Acts += c.Acts
	}
	return sum
}

// T6: a cascade has at most so many rounds, in each at most as many steps and actions as were reckoned ahead, and at most so many events of each.
func TestCascadesEnd(t *testing.T) {
	cutoffs := 0
	for seed := range uint64(300) {
		d := long(seed + 500000)
		v := made(t, d.c)
		costs := map[int]api.Cost{}
		for range 100 {
			c := d.command(seen(v))
			r := v.Do(c)
			if r.Err != api.OK {
				continue
			}
			switch c.Op {
			case api.OpUpload:
				_, costs[r.ID], _ = lower.Source(c.Source)
			case api.OpDrop:
				delete(costs, c.ID)
			}
			most := bound(costs)
			n := tally(r)
			if n.cut {
				cutoffs++
			}
			if r.Rounds > d.c.Rounds || r.Steps > r.Rounds*most.Steps || n.acts > r.Rounds*most.Acts+1 || n.events > n.acts*(d.c.Orders+2) || n.fired > r.Rounds*len(costs) {
				t.Fatalf("%+v\n%+v is %+v: %+v of %+v", d.c, c, r, n, most)
			}
			if n.cut && r.Rounds != d.c.Rounds {
				t.Fatalf("%+v is cut off behind %d rounds of %d", c, r.Rounds, d.c.Rounds)
			}
		}
	}
	if cutoffs < 100 {
		t.Errorf("only %d were cut off", cutoffs)
	}
}

// sums are what is counted of a reply.
type sums struct {
	fired, acts, events int
	cut                 bool
}

func tally(r api.Reply) sums {
	var n sums
	for k, x := range r.Told {
		switch {
		case x.Tell == api.TellFired || x.Tell == api.TellRefused:
			n.fired++
		case x.Tell == api.TellReject:
			n.acts++
		case x.Tell == api.TellCutoff:
			n.cut = k == len(r.Told)-1
		case x.Tell == api.TellEvent:
			n.events++
			if w := x.Event.What; w == api.Accepted || w == api.Amended || w == api.Reduced || w == api.Withdrawn {
				n.acts++
			}
		}
	}
	return n
}

// The most that may be: 64 strategies, each of which fires in each of 16 rounds.
func TestTheGreatestCascade(t *testing.T) {
	c := with(func(c *api.Config) {
		c.Rules.Clients, c.Rounds, c.Strats, c.Acts, c.Orders, c.Open, c.Levels, c.IDs, c.Volume = 8, 16, 8, 1000000, 256, 256, 100, 1000000, 1000000
	})
	v := made(t, c)
	for client := 1; client <= 8; client++ {
		for range 8 {
			begun(t, v, client, "strategy s { state a { when now == 1t do submit buy of 1q at 5p limit, submit sell of 1q at 5p limit, submit buy of 1q at 4p limit, submit sell of 1q at 6p limit, submit buy of 1q market, submit sell of 1q market, submit buy of 3q at 6p ioc, submit sell of 3q at 4p ioc; } }")
		}
	}
	j := newJudge(c)
	for id := 1; id <= 64; id++ {
		j.owner[id] = 1 + (id-1)/8
	}
	r := v.Do(tick(1))
	if wrong := j.sees(tick(1), r); wrong != "" {
		t.Error(wrong)
	}
	n := tally(r)
	if r.Rounds != 16 || n.fired != 16*64 || n.acts != 16*64*8 || !n.cut || r.Steps > 16*64*500 {
		t.Error(r.Rounds, r.Steps, n)
	}
}

// expectFed tells whether each strategy that runs sees the view of its client, and nothing is still to be fed to any; how many run.
func expectFed(t *testing.T, v *venue.Venue) int {
	t.Helper()
	d := seen(v)
	running := 0
	for _, s := range d.Stands {
		u := d.Usages[s.Client-1]
		want := api.Snap{Bid: d.Top.Bid, Ask: d.Top.Ask, Last: d.Top.Last, Volume: d.Top.Volume, Now: d.Now, Open: u.Lots}
		if s.Status == api.Running && s.Snap != want {
			t.Fatalf("%d sees %+v; its client's view is %+v", s.ID, s.Snap, want)
		}
		if s.Status == api.Running {
			running++
		}
	}
	if r := v.Do(tick(d.Now)); !same(r, api.Reply{Top: d.Top}) {
		t.Fatalf("something was still to be fed: %+v", r)
	}
	return running
}

// Behind each command each Running strategy's snapshot is the view of its client, and nothing is still to be fed to it.
func TestBehindEachCommandAllAreFed(t *testing.T) {
	running := 0
	for seed := range uint64(300) {
		d := long(seed + 600000)
		v := made(t, d.c)
		for range 100 {
			v.Do(d.command(seen(v)))
			running += expectFed(t, v)
		}
	}
	if running < 10000 {
		t.Errorf("only %d ran", running)
	}
}

// A venue without strategies is its engine, but for quotas.
func TestWithoutStrategiesItIsItsEngine(t *testing.T) {
	for seed := range uint64(300) {
		d := drawn(seed + 700000)
		d.c.Acts, d.c.Open, d.c.Strats = 1000000, 256, 0
		v := made(t, d.c)
		e, _ := engine.New(d.c)
		for range 100 {
			c := d.command(seen(v))
			if c.Client < 1 || c.Client > d.c.Rules.Clients {
				continue
			}
			var want api.Reply
			var l []api.Event
			switch c.Op {
			case api.OpEnter:
				c.Entry.Client = c.Client
				want.ID, l, want.Err = e.Enter(c.Entry)
			case api.OpAmend:
				l, want.Err = e.Amend(c.Client, c.ID, c.Price, c.Qty)
			case api.OpCancel:
				l, want.Err = e.Cancel(c.Client, c.ID)
			case api.OpBook:
				want.Orders = e.Orders()
			default:
				continue
			}
			tellEvents(&want, l)
			if want.Err == api.OK {
				want.Top = e.Top()
			}
			if r := v.Do(c); !same(r, want) {
				t.Fatalf("%+v\n%+v is %+v; the engine says %+v", d.c, c, r, want)
			}
			if v.Top() != e.Top() {
				t.Fatal(v.Top(), e.Top())
			}
			for client := 1; client <= d.c.Rules.Clients; client++ {
				orders, lots := e.Open(client)
				if u := v.Do(quota(client)).Usage; u.Orders != orders || u.Lots != lots {
					t.Fatal(u, orders, lots)
				}
			}
		}
	}
}

// Strategies that do nothing change nothing of what the market says.
func TestIdleStrategiesAreNothingToTheMarket(t *testing.T) {
	for seed := range uint64(60) {
		d := drawn(seed + 800000)
		d.c.Strats = 2
		v, w := made(t, d.c), made(t, d.c)
		begun(t, v, 1, idle())
		begun(t, v, 1, "strategy s { state a { when open > 1000000q && volume > 1q do halt; } }")
		for range 60 {
			c := d.command(seen(w))
			if c.Op != api.OpEnter && c.Op != api.OpAmend && c.Op != api.OpCancel && c.Op != api.OpTick {
				continue
			}
			r, want := v.Do(c), w.Do(c)
			r.Rounds, r.Steps = 0, 0
			if !same(r, want) {
				t.Fatalf("%+v is %+v; without strategies %+v", c, r, want)
			}
		}
	}
}

// script is drawn commands of one venue, and what they came to.
type script struct {
	c        api.Config
	commands []api.Command
	replies  []api.Reply
	behind   dump
}

func scripted(t *testing.T, from uint64, commands int) script {
	t.Helper()
	d := long(from)
	s := script{c: d.c}
	v := made(t, d.c)
	for range commands {
		c := d.command(seen(v))
		s.commands = append(s.commands, c)
		s.replies = append(s.replies, v.Do(c))
	}
	s.behind = seen(v)
	return s
}

// again is what is wrong when a script runs once more.
func (s script) again(v *venue.Venue, k int) string {
	if r := v.Do(s.commands[k]); !same(r, s.replies[k]) {
		return fmt.Sprintf("%+v is %+v; alone it was %+v", s.commands[k], r, s.replies[k])
	}
	return ""
}

// Venues know nothing of one another (R4): scripts that run in turn say what each says alone; and the same script says the same (example 10).
func TestSideBySide(t *testing.T) {
	for seed := range uint64(40) {
		all := []script{scripted(t, seed+900000, 60), scripted(t, seed+910000, 60), scripted(t, seed+920000, 60)}
		all = append(all, all[0])
		var venues []*venue.Venue
		for _, s := range all {
			venues = append(venues, made(t, s.c))
		}
		for k := range 60 {
			for i, s := range all {
				if wrong := s.again(venues[i], k); wrong != "" {
					t.Fatal(wrong)
				}
			}
		}
		for i, s := range all {
			if !same(seen(venues[i]), s.behind) {
				t.Fatalf("%+v; alone %+v", seen(venues[i]), s.behind)
			}
		}
	}
}

// The same at the same time, each venue by one caller.
func TestAtTheSameTime(t *testing.T) {
	all := []script{scripted(t, 950000, 100), scripted(t, 950001, 100), scripted(t, 950002, 100), scripted(t, 950003, 100)}
	var wait sync.WaitGroup
	for range 3 {
		for _, s := range all {
			wait.Go(func() {
				v, _ := venue.New(s.c)
				for k := range s.commands {
					if wrong := s.again(v, k); wrong != "" {
						t.Error(wrong)
						return
					}
				}
			})
		}
	}
	wait.Wait()
}

// Two venues side by side, written out.
func TestTwoVenues(t *testing.T) {
	one, two := running(t, plain(), hunter), running(t, plain(), hunter)
	done(t, one, sell(2, 10, 5))
	done(t, one, tick(8))
	expectStand(t, two, api.Standing{ID: 1, Client: 1, Status: api.Running, Regs: []int64{0}, Slots: []int{0}})
	if two.Now() != 0 || two.Top() != (api.Top{}) {
		t.Error(two.Now(), two.Top())
	}
	expectOrders(t, two)
	expectUsage(t, two, 2, api.Usage{})
	saying(t, two, sell(2, 9, 1), 2, "accepted 1 9 1, rested 1 9 1, fired 1 0, accepted 2 9 2, traded 2 1 9 1, rested 2 9 1")
	expectStand(t, one, api.Standing{ID: 1, Client: 1, Status: api.Running, Regs: []int64{1}, Slots: []int{2}, Snap: api.Snap{Ask: 10, Last: 10, Volume: 2, Now: 8}})
}
