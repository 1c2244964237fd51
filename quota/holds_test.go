package quota_test

import (
	"slices"
	"testing"

	"tripwire/api"
	"tripwire/quota"
)

// Nobody ever has more than c.Strats strategies, or c.Acts actions in one window: as Used tells it, and as it was granted.
func TestNobodyHasMore(t *testing.T) {
	for seed := range uint64(1000) {
		d := drawn(seed + 200000)
		m := made(t, d.c)
		var has [mostClients + 1]use
		for range 80 {
			c, was := d.call(), m.Window()
			e := c.do(m)
			if m.Window() != was {
				for i := range has {
					has[i].acts = 0
				}
			}
			switch {
			case e != ok:
			case c.what == "acts":
				has[c.client].acts += c.n
			case c.what == "plan":
				has[c.client].strats++
			case c.what == "drop":
				has[c.client].strats--
			}
			for client, u := range has {
				if u.strats < 0 || u.strats > d.c.Strats || u.acts < 0 || u.acts > d.c.Acts {
					t.Fatalf("of %s: behind %v client %d has %v", told(d.c), c, client, u)
				}
				expectUsed(t, m, client, u.strats, u.acts)
			}
			if t.Failed() {
				t.Fatalf("of %s: behind %v", told(d.c), c)
			}
		}
	}
}

// Clients know nothing of one another: what one is told is what it would be told alone.
func TestClientsAlone(t *testing.T) {
	for seed := range uint64(500) {
		d := drawn(seed + 300000)
		script := d.script(80)
		m := made(t, d.c)
		together := answers(m, script)
		for client := 1; client <= d.c.Rules.Clients; client++ {
			alone := made(t, d.c)
			for i, c := range script {
				if c.what != "tick" && c.client != client {
					continue
				}
				a := answered(alone, c)
				if a.e != together[i].e || a.window != together[i].window || a.used[client] != together[i].used[client] {
					t.Fatalf("of %s: client %d, call %d, %v: %v alone; %v among others", told(d.c), client, i, c, a, together[i])
				}
				for other, u := range a.used {
					if other != client && u != (use{}) {
						t.Fatalf("client %d has used %v by calls of client %d", other, u, client)
					}
				}
			}
		}
	}
}

// What one client does to its last is nothing to those beside it.
func TestUsedBehindCallsOfAnother(t *testing.T) {
	for clients := 1; clients <= mostClients; clients++ {
		for client := 1; client <= clients; client++ {
			m := made(t, config(clients, 2, 5, 10))
			want := make([]use, clients)
			for has := range 2 {
				expectPlan(t, m, client, ok)
				expectActs(t, m, client, 2, ok)
				want[client-1] = use{has + 1, 2*has + 2}
				expectAll(t, m, 0, want...)
			}
			expectPlan(t, m, client, noPlan)
			expectActs(t, m, client, 2, noActs)
			expectAll(t, m, 0, want...)
			for other := 1; other <= clients; other++ {
				if other == client {
					continue
				}
				expectDrop(t, m, other, noPlan)
				expectActs(t, m, other, 5, ok)
				expectActs(t, m, other, 1, noActs)
				expectPlan(t, m, other, ok)
				want[other-1] = use{1, 5}
				expectAll(t, m, 0, want...)
			}
			expectDrop(t, m, client, ok)
			want[client-1].strats--
			expectAll(t, m, 0, want...)
		}
	}
}

// more is a script with each tick asked several times, and at times that lie between the last one and it.
func more(script []call, window int, drawn func(int) int) ([]call, []int) {
	var all []call
	var places []int
	now := 0
	for _, c := range script {
		if c.what == "tick" && c.n > now && c.n <= lastTime {
			var between []int
			for range drawn(4) {
				between = append(between, now+drawn(c.n-now+1))
			}
			for _, begin := range []int{now, c.n / window * window, c.n} {
				between = append(between, max(now, begin))
			}
			slices.Sort(between)
			for _, time := range between {
				all = append(all, tick(time))
			}
			now = c.n
		}
		for range drawn(3) {
			all = append(all, tick(now))
		}
		places = append(places, len(all))
		all = append(all, c)
	}
	return all, places
}

// A window does not hang on how often Tick was asked in it.
func TestTicksMoreOften(t *testing.T) {
	for seed := range uint64(800) {
		d := drawn(seed + 400000)
		script := d.script(80)
		seldom := answers(made(t, d.c), script)
		longer, places := more(script, int(d.c.Window), d.below)
		often := answers(made(t, d.c), longer)
		for i, at := range places {
			if seldom[i] != often[at] {
				t.Fatalf("of %s: %v is %v; with more ticks %v", told(d.c), script[:i+1], seldom[i], often[at])
			}
		}
	}
}

// To come to a time step by step is to come to it at once.
func TestStepByStepOrAtOnce(t *testing.T) {
	for _, window := range []int64{1, 2, 3, 7, 10, 50} {
		for from := range int64(12) {
			for to := from; to < 60; to++ {
				steps, once := made(t, config(2, 1, 5, window)), made(t, config(2, 1, 5, window))
				for _, m := range []*quota.Meter{steps, once} {
					expectTick(t, m, from, ok)
					expectActs(t, m, 1, 3, ok)
					expectPlan(t, m, 2, ok)
				}
				for now := from; now <= to; now++ {
					expectTick(t, steps, now, ok)
				}
				expectTick(t, once, to, ok)
				want := use{0, 3}
				if to/window != from/window {
					want = use{}
				}
				expectAll(t, steps, to/window, want, use{1, 0})
				expectAll(t, once, to/window, want, use{1, 0})
			}
		}
	}
}

// What is refused leaves all as it was (R8): a script is the same without it.
func TestRefusedIsNotDone(t *testing.T) {
	for seed := range uint64(800) {
		d := drawn(seed + 500000)
		script := d.script(80)
		whole, without := made(t, d.c), made(t, d.c)
		var last answer
		last.window = whole.Window()
		for i, c := range script {
			a := answered(whole, c)
			if a.e != ok {
				a.e = last.e
				if a != last {
					t.Fatalf("of %s: %v was refused, and has changed something: %v; %v ahead of it", told(d.c), script[:i+1], a, last)
				}
				continue
			}
			if b := answered(without, c); b != a {
				t.Fatalf("of %s: %v is %v; without what was refused %v", told(d.c), script[:i+1], a, b)
			}
			last = a
		}
	}
}

// What is asked changes nothing, however often.
func TestAskingChangesNothing(t *testing.T) {
	for seed := range uint64(300) {
		d := drawn(seed + 600000)
		asked, left := made(t, d.c), made(t, d.c)
		for _, c := range d.script(60) {
			for range 3 {
				asked.Window()
				asked.Used(d.client())
			}
			if is, want := c.do(asked), c.do(left); is != want {
				t.Fatalf("of %s: %v is %d; unasked %d", told(d.c), c, is, want)
			}
		}
		if is, want := answered(asked, tick(-1)), answered(left, tick(-1)); is != want {
			t.Fatalf("of %s: %v; unasked %v", told(d.c), is, want)
		}
	}
}

// Meters know nothing of one another (R4): two of one config, and two of others, in turn.
func TestSideBySide(t *testing.T) {
	for seed := range uint64(200) {
		one, two, three := drawn(seed+700000), drawn(seed+800000), drawn(seed+900000)
		configs := []api.Config{one.c, one.c, two.c, three.c}
		scripts := [][]call{one.script(60), one.script(60), two.script(60), three.script(60)}
		var together []*quota.Meter
		var said [][]answer
		for _, c := range configs {
			together = append(together, made(t, c))
			said = append(said, nil)
		}
		for i := range 60 {
			for k, m := range together {
				said[k] = append(said[k], answered(m, scripts[k][i]))
			}
		}
		for k, c := range configs {
			if !slices.Equal(said[k], answers(made(t, c), scripts[k])) {
				t.Fatalf("of %s: %v is something else beside others", told(c), scripts[k])
			}
		}
	}
}

// Two meters side by side, written out.
func TestTwoMeters(t *testing.T) {
	one, two := made(t, example()), made(t, example())
	expectActs(t, one, 1, 3, ok)
	expectPlan(t, one, 1, ok)
	expectTick(t, one, 25, ok)
	expectActs(t, one, 2, 1, ok)
	expectAll(t, two, 0, use{}, use{})
	expectTick(t, two, 5, ok)
	expectActs(t, two, 1, 2, ok)
	expectPlan(t, two, 2, ok)
	expectAll(t, one, 2, use{1, 0}, use{0, 1})
	expectAll(t, two, 0, use{0, 2}, use{1, 0})
	expectAll(t, made(t, example()), 0, use{}, use{})
}

// What is not looked at in a config does not tell later, either.
func TestUnseenNumbersDoNotTell(t *testing.T) {
	for seed := range uint64(40) {
		d := drawn(seed + 1000000)
		script := d.script(60)
		want := answers(made(t, d.c), script)
		for _, c := range unseen(d.c) {
			if !slices.Equal(answers(made(t, c), script), want) {
				t.Fatalf("%+v tells something else than %s", c, told(d.c))
			}
		}
	}
}
