package quota_test

import (
	"testing"

	"tripwire/api"
	"tripwire/quota"
)

func expectNoNew(t *testing.T, c api.Config) {
	t.Helper()
	if m, e := quota.New(c); m != nil || e != wrong {
		t.Errorf("New(%+v) is %v, %d; want nil, %d", c, m, e, wrong)
	}
}

// expectNew holds a new meter against what a config says: who there is, at which time, and how much each may use.
func expectNew(t *testing.T, c api.Config) {
	t.Helper()
	m := made(t, c)
	clients := c.Rules.Clients
	expectAll(t, m, 0, make([]use, clients)...)
	expectTick(t, m, -1, noTime)
	expectTick(t, m, 0, ok)
	for _, client := range nobody(clients) {
		expectActs(t, m, client, 0, wrong)
		expectPlan(t, m, client, wrong)
		expectDrop(t, m, client, wrong)
	}
	for client := 1; client <= clients; client++ {
		expectUsed(t, m, client, 0, 0)
		expectDrop(t, m, client, noPlan)
		for range c.Strats {
			expectPlan(t, m, client, ok)
		}
		expectPlan(t, m, client, noPlan)
		expectActs(t, m, client, c.Acts+1, noActs)
		expectActs(t, m, client, c.Acts, ok)
		expectActs(t, m, client, 1, noActs)
		expectUsed(t, m, client, c.Strats, c.Acts)
	}
	expectTick(t, m, c.Window-1, ok)
	expectWindow(t, m, 0)
	expectTick(t, m, c.Window, ok)
	expectWindow(t, m, 1)
}

// part is a number of a config that is looked at: how it is laid, and which may be and which not.
type part struct {
	lay func(c *api.Config, n int64)
	may []int64
	not []int64
}

func parts() []part {
	return []part{
		{
			func(c *api.Config, n int64) { c.Rules.Clients = int(n) },
			[]int64{1, 2, 3, 4, 5, 6, 7, 8},
			[]int64{least, -8, -1, 0, 9, 10, 16, 255, 257, 1 << 32, 1<<32 + 1, greatest},
		},
		{
			func(c *api.Config, n int64) { c.Strats = int(n) },
			[]int64{0, 1, 2, 3, 4, 5, 6, 7, 8},
			[]int64{least, -8, -1, 9, 10, 16, 256, 257, 1 << 32, greatest},
		},
		{
			func(c *api.Config, n int64) { c.Acts = int(n) },
			[]int64{0, 1, 2, 3, 100, 65536, 999999, 1000000},
			[]int64{least, -1000000, -1, 1000001, 2000000, 1 << 32, greatest},
		},
		{
			func(c *api.Config, n int64) { c.Window = n },
			[]int64{1, 2, 10, 1 << 32, lastTime - 1, lastTime},
			[]int64{earliest, -lastTime, -1, 0, lastTime + 1, 2 * lastTime, latest},
		},
	}
}

func TestWhatMayBeIsMade(t *testing.T) {
	all := parts()
	for _, clients := range all[0].may {
		for _, strats := range all[1].may {
			for _, acts := range all[2].may {
				for _, window := range all[3].may {
					expectNew(t, config(int(clients), int(strats), int(acts), window))
				}
			}
		}
	}
}

func TestWhatMayNotBeIsNotMade(t *testing.T) {
	for _, p := range parts() {
		for _, c := range []api.Config{example(), config(1, 0, 0, 1), config(8, 8, mostActs, lastTime), config(4, 4, 4, 4)} {
			for _, n := range p.not {
				p.lay(&c, n)
				expectNoNew(t, c)
			}
			for _, n := range p.may {
				p.lay(&c, n)
				made(t, c)
			}
		}
	}
	expectNoNew(t, api.Config{})
}

// One that is wrong is not made good by another one that is, nor by all of them.
func TestSeveralWrongAtOnce(t *testing.T) {
	all := parts()
	for which := 1; which < 1<<len(all); which++ {
		for k := range 12 {
			c := example()
			for i, p := range all {
				if which>>i&1 == 1 {
					p.lay(&c, p.not[k%len(p.not)])
				}
			}
			expectNoNew(t, c)
		}
	}
}

// unseen are configs that differ only in what is not looked at: in one number of it, and in all.
func unseen(c api.Config) []api.Config {
	all := []api.Config{c}
	for _, n := range []int64{earliest, -1, 0, 1, 17, lastTime + 1, latest} {
		whole := c
		for _, lay := range []func(c *api.Config){
			func(c *api.Config) { c.Rules.Tick = n }, func(c *api.Config) { c.Rules.Lot = n },
			func(c *api.Config) { c.Rules.Low = n }, func(c *api.Config) { c.Rules.High = n }, func(c *api.Config) { c.Rules.Most = n },
			func(c *api.Config) { c.Orders = int(n) }, func(c *api.Config) { c.Levels = int(n) }, func(c *api.Config) { c.Volume = n },
			func(c *api.Config) { c.IDs = int(n) }, func(c *api.Config) { c.Rounds = int(n) }, func(c *api.Config) { c.Open = int(n) },
		} {
			one := c
			lay(&one)
			lay(&whole)
			all = append(all, one)
		}
		all = append(all, whole)
	}
	return all
}

func TestNothingElseIsLookedAt(t *testing.T) {
	for _, c := range []api.Config{example(), config(1, 0, 0, 1), config(8, 8, mostActs, lastTime)} {
		for _, x := range unseen(c) {
			expectNew(t, x)
		}
	}
	for _, c := range []api.Config{config(0, 1, 3, 10), config(9, 1, 3, 10), config(2, -1, 3, 10), config(2, 9, 3, 10), config(2, 1, -1, 10), config(2, 1, mostActs+1, 10), config(2, 1, 3, 0), config(2, 1, 3, lastTime+1)} {
		for _, x := range unseen(c) {
			expectNoNew(t, x)
		}
	}
}

// What a config is changed to later is nothing to a meter (R2).
func TestAConfigIsNotKept(t *testing.T) {
	c := example()
	m := made(t, c)
	c.Rules.Clients, c.Strats, c.Acts, c.Window = 8, 8, 100, 1
	exampleActs(t, m)
	examplePlans(t, m)
}

func TestNumbersOfErrors(t *testing.T) {
	if ok != 0 || wrong != 1 || noActs != 220 || noPlan != 222 || noTime != 223 {
		t.Error(ok, wrong, noActs, noPlan, noTime)
	}
	if api.MaxClients != mostClients || api.MaxStrats != mostOf || api.MaxActs != mostActs || api.MaxTime != lastTime {
		t.Error(api.MaxClients, api.MaxStrats, api.MaxActs, api.MaxTime)
	}
}
