package venue_test

import (
	"testing"

	"tripwire/api"
	"tripwire/engine"
	quotas "tripwire/quota"
	"tripwire/venue"
)

func expectNoNew(t *testing.T, c api.Config, want api.Errno) {
	t.Helper()
	if v, no := venue.New(c); v != nil || no != want {
		t.Errorf("New(%+v) is %v, %d; want nil, %d", c, v, no, want)
	}
}

// expectNew tells whether a venue of a config begins without anything, at the time 0.
func expectNew(t *testing.T, c api.Config) {
	t.Helper()
	v := made(t, c)
	if d := seen(v); !same(d, dump{Usages: make([]api.Usage, api.MaxClients)}) {
		t.Errorf("a new one of %+v is %+v", c, d)
	}
	if s, is := v.Stand(1); is || !same(s, api.Standing{}) {
		t.Error(s, is)
	}
	if r := v.Do(tick(0)); !same(r, api.Reply{}) {
		t.Error(r)
	}
	expectRefused(t, v, tick(-1), noTime)
	for client := 1; client <= c.Rules.Clients; client++ {
		expectUsage(t, v, client, api.Usage{})
	}
	for _, client := range nobody(c.Rules.Clients) {
		expectRefused(t, v, quota(client), noOne)
	}
}

// fault is something that is wrong with a config, and what New tells of it.
type fault struct {
	turn func(c *api.Config)
	no   api.Errno
}

// faults are in the order in which they are asked for: the engine's, the meter's, the venue's own.
func faults() []fault {
	return []fault{
		{func(c *api.Config) { c.Rules.Clients = 0 }, api.ErrRulesConfig},
		{func(c *api.Config) { c.Rules.Clients = 9 }, api.ErrRulesConfig},
		{func(c *api.Config) { c.Rules.Tick = 0 }, api.ErrRulesConfig},
		{func(c *api.Config) { c.Rules.Lot = -1 }, api.ErrRulesConfig},
		{func(c *api.Config) { c.Rules.Low = 0 }, api.ErrRulesConfig},
		{func(c *api.Config) { c.Rules.High = 0 }, api.ErrRulesConfig},
		{func(c *api.Config) { c.Rules.Most = 0 }, api.ErrRulesConfig},
		{func(c *api.Config) { c.Orders = 0 }, api.ErrArg},
		{func(c *api.Config) { c.Orders = 257 }, api.ErrArg},
		{func(c *api.Config) { c.Levels = 0 }, api.ErrArg},
		{func(c *api.Config) { c.Levels = 129 }, api.ErrArg},
		{func(c *api.Config) { c.Volume = -1 }, api.ErrArg},
		{func(c *api.Config) { c.Volume = api.MaxVolume + 1 }, api.ErrArg},
		{func(c *api.Config) { c.IDs = -1 }, api.ErrArg},
		{func(c *api.Config) { c.IDs = api.MaxIDs + 1 }, api.ErrArg},
		{func(c *api.Config) { c.Strats = -1 }, api.ErrArg},
		{func(c *api.Config) { c.Strats = 9 }, api.ErrArg},
		{func(c *api.Config) { c.Acts = -1 }, api.ErrArg},
		{func(c *api.Config) { c.Acts = 1000001 }, api.ErrArg},
		{func(c *api.Config) { c.Window = 0 }, api.ErrArg},
		{func(c *api.Config) { c.Window = lastTime + 1 }, api.ErrArg},
		{func(c *api.Config) { c.Rounds = 0 }, api.ErrVenueConfig},
		{func(c *api.Config) { c.Rounds = -1 }, api.ErrVenueConfig},
		{func(c *api.Config) { c.Rounds = 17 }, api.ErrVenueConfig},
		{func(c *api.Config) { c.Rounds = greatest }, api.ErrVenueConfig},
		{func(c *api.Config) { c.Open = -1 }, api.ErrVenueConfig},
		{func(c *api.Config) { c.Open = 257 }, api.ErrVenueConfig},
		{func(c *api.Config) { c.Open = least }, api.ErrVenueConfig},
	}
}

func TestWhatMayNotBeIsNotMade(t *testing.T) {
	for _, x := range faults() {
		expectNoNew(t, with(x.turn), x.no)
	}
	expectNoNew(t, api.Config{}, api.ErrRulesConfig)
}

// Of several the one is told that is asked for first, in whichever order they were laid.
func TestSeveralWrongAtOnce(t *testing.T) {
	all := faults()
	for i, first := range all {
		for _, second := range all[i+1:] {
			expectNoNew(t, with(func(c *api.Config) { first.turn(c); second.turn(c) }), first.no)
			expectNoNew(t, with(func(c *api.Config) { second.turn(c); first.turn(c) }), first.no)
		}
	}
	for _, first := range all {
		expectNoNew(t, with(func(c *api.Config) {
			c.Rounds, c.Open = 0, 257
			first.turn(c)
		}), first.no)
	}
}

// What the engine and the meter tell is told as it is.
func TestNewIsTheEnginesAndTheMeters(t *testing.T) {
	for _, x := range faults() {
		c := with(x.turn)
		_, no := engine.New(c)
		if no == api.OK {
			_, no = quotas.New(c)
		}
		if no == api.OK {
			no = api.ErrVenueConfig
		}
		expectNoNew(t, c, no)
	}
}

func TestWhatMayBeIsMade(t *testing.T) {
	for _, rounds := range []int{1, 2, 3, 15, 16} {
		for _, open := range []int{0, 1, 8, 255, 256} {
			expectNew(t, with(func(c *api.Config) { c.Rounds, c.Open = rounds, open }))
		}
	}
	expectNew(t, with(func(c *api.Config) { c.Rules.Clients, c.Strats, c.Acts, c.Window = 1, 0, 0, 1 }))
	expectNew(t, with(func(c *api.Config) { c.Rules.Clients, c.Strats, c.Acts, c.Window = 8, 8, 1000000, lastTime }))
	expectNew(t, with(func(c *api.Config) { c.Orders, c.Levels, c.Volume, c.IDs = 1, 1, 0, 0 }))
	expectNew(t, with(func(c *api.Config) { c.Orders, c.Levels, c.Volume, c.IDs = 256, 128, api.MaxVolume, api.MaxIDs }))
}

// What a config is changed to later is nothing to a venue (R2).
func TestAConfigIsNotKept(t *testing.T) {
	c := with(func(c *api.Config) { c.Open, c.Acts = 1, 2 })
	v := made(t, c)
	c.Open, c.Acts, c.Strats, c.Rounds, c.Rules.Clients = 256, 100, 0, 16, 8
	expectRefused(t, v, buy(3, 5, 1), noOne)
	done(t, v, buy(1, 5, 1))
	expectRefused(t, v, buy(1, 5, 1), noOpen)
	done(t, v, enter(1, api.Now, api.Buy, 5, 1))
	expectRefused(t, v, buy(1, 5, 1), noActs)
	done(t, v, upload(1, hunter))
}

func TestNumbersOfErrors(t *testing.T) {
	for no, want := range map[api.Errno]int{
		noActs: 220, noOpen: 221, noPlan: 222, api.ErrVenueConfig: 230, noOp: 231, noOne: 232, noTime: 233, noStrat: 234, noOwner: 235, runs: 236, stopped: 237,
	} {
		if int(no) != want {
			t.Errorf("%d; want %d", no, want)
		}
	}
	if api.MaxRounds != 16 || api.MaxOrders != 256 || api.MaxTime != lastTime || api.MaxClients != 8 {
		t.Error(api.MaxRounds, api.MaxOrders, api.MaxTime, api.MaxClients)
	}
}
