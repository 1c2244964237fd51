package venue_test

import (
	"testing"

	"tripwire/api"
)

const clock = "strategy s { reg n int = 0; state a { when int(now) > n do set n = int(now); } }"

// Time goes on, or stays, and never goes back, nor beyond MaxTime.
func TestTimes(t *testing.T) {
	v := running(t, plain(), clock)
	expectNow := func(want int64) {
		t.Helper()
		if v.Now() != want {
			t.Errorf("it is %d; want %d", v.Now(), want)
		}
		expectStand(t, v, api.Standing{ID: 1, Client: 1, Status: api.Running, Regs: []int64{want}, Snap: api.Snap{Now: want}})
	}
	expectRefused(t, v, tick(-1), noTime)
	expectRefused(t, v, tick(least), noTime)
	for _, now := range []int64{1, 2, 5, 6, 9, 10, 11, 1000, lastTime - 1, lastTime} {
		saying(t, v, tick(now), 1, "fired 1 0")
		expectNow(now)
		// The same time once more is no news.
		for range 2 {
			if r := saying(t, v, tick(now), 0, ""); r.Steps != 0 {
				t.Error(r)
			}
			expectNow(now)
		}
		for _, wrong := range []int64{now - 1, 0, -1, least, lastTime + 1, greatest} {
			expectRefused(t, v, tick(wrong), noTime)
		}
		expectNow(now)
	}
}

// Time is news to each strategy that runs, whosever it is, and to no other one.
func TestTimeIsNewsToAll(t *testing.T) {
	v := running(t, plain(), clock, clock)
	three := begun(t, v, 2, clock)
	four := done(t, v, upload(2, clock)).ID
	saying(t, v, tick(3), 1, "fired 1 0, fired 2 0, fired 3 0")
	done(t, v, stop(1, 2))
	saying(t, v, tick(5), 1, "fired 1 0, fired 3 0")
	for id, n := range map[int]int64{1: 5, 2: 3, three: 5, four: 0} {
		if s, _ := v.Stand(id); s.Regs[0] != n || s.Snap.Now != n {
			t.Errorf("%d: %+v; want %d", id, s, n)
		}
	}
	saying(t, v, start(2, four), 1, "fired 4 0")
	if s, _ := v.Stand(four); s.Snap.Now != 5 {
		t.Error(s)
	}
	saying(t, v, start(1, 2), 1, "fired 2 0")
}

// Into a new window, and within one: what was had is forgotten in a new one alone, for all clients.
func TestTicksAndWindows(t *testing.T) {
	v := made(t, with(func(c *api.Config) { c.Acts, c.Window = 2, 7 }))
	for window := range int64(5) {
		done(t, v, tick(7*window))
		for client := 1; client <= 2; client++ {
			expectActs(t, v, client, 0)
			done(t, v, enter(client, api.Now, api.Buy, 5, 1))
			done(t, v, enter(client, api.Now, api.Buy, 5, 1))
			expectRefused(t, v, enter(client, api.Now, api.Buy, 5, 1), noActs)
		}
		for now := 7 * window; now < 7*window+7; now++ {
			done(t, v, tick(now))
			expectActs(t, v, 1, 2)
			expectActs(t, v, 2, 2)
		}
		expectRefused(t, v, tick(7*window+5), noTime)
		expectActs(t, v, 1, 2)
	}
	done(t, v, tick(lastTime))
	expectActs(t, v, 1, 0)
}

// A tick's cascade is of the new window already: what was refused in the last one is granted.
func TestATickGrantsAnew(t *testing.T) {
	v := running(t, with(func(c *api.Config) { c.Acts, c.Rounds = 2, 2 }), one("when has ask do submit buy of 1q at ask ioc, submit buy of 1q at ask ioc;"))
	saying(t, v, sell(2, 10, 50), 2, "accepted 1 10 50, rested 1 10 50, fired 1 0, accepted 2 10 1, traded 2 1 10 1, accepted 3 10 1, traded 3 1 10 1, refused 1 0")
	saying(t, v, tick(9), 1, "refused 1 0")
	saying(t, v, tick(10), 2, "fired 1 0, accepted 4 10 1, traded 4 1 10 1, accepted 5 10 1, traded 5 1 10 1, refused 1 0")
	expectActs(t, v, 1, 2)
	expectActs(t, v, 2, 0)
}

// OpTick looks at nothing but Time.
func TestATickIsNobodys(t *testing.T) {
	for _, client := range nobody(2) {
		v := running(t, plain(), clock)
		c := tick(4)
		c.Client, c.ID, c.Price, c.Source = client, -1, -1, "strategy"
		saying(t, v, c, 1, "fired 1 0")
	}
}
