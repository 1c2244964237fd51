package venue_test

import (
	"errors"
	"testing"

	"tripwire/api"
	"tripwire/parse"
)

const hunter = "strategy s { reg n int = 0; slot o; state a { when has ask && n < 1 do submit buy of 2q at ask limit as o, set n = n + 1; } }"

func TestExampleOne(t *testing.T) {
	v := made(t, plain())
	if r := done(t, v, upload(1, hunter)); !same(r, api.Reply{ID: 1}) {
		t.Error(r)
	}
	if r := saying(t, v, start(1, 1), 1, ""); !same(r, api.Reply{Rounds: 1, Steps: 2}) {
		t.Error(r)
	}
	r := saying(t, v, sell(2, 10, 5), 2, "accepted 1 10 5, rested 1 10 5, fired 1 0, accepted 2 10 2, traded 2 1 10 2")
	if r.ID != 1 || r.Top != (api.Top{Ask: 10, Last: 10, Volume: 2}) {
		t.Error(r)
	}
	expectStand(t, v, api.Standing{ID: 1, Client: 1, Status: api.Running, Regs: []int64{1}, Slots: []int{2}, Snap: api.Snap{Ask: 10, Last: 10, Volume: 2}})
	expectUsage(t, v, 1, api.Usage{Strats: 1, Acts: 1})
	expectUsage(t, v, 2, api.Usage{Orders: 1, Lots: 3, Acts: 1})
}

func TestExampleTwo(t *testing.T) {
	v := running(t, plain(), "strategy s { state a { when has ask do submit buy of 1q at ask ioc; } }")
	r := saying(t, v, sell(2, 10, 5), 3, "accepted 1 10 5, rested 1 10 5, fired 1 0, accepted 2 10 1, traded 2 1 10 1, fired 1 0, accepted 3 10 1, traded 3 1 10 1, fired 1 0, accepted 4 10 1, traded 4 1 10 1, cutoff")
	if r.ID != 1 || r.Top != (api.Top{Ask: 10, Last: 10, Volume: 3}) {
		t.Error(r)
	}
	expectStand(t, v, api.Standing{ID: 1, Client: 1, Status: api.Running, Snap: api.Snap{Ask: 10, Last: 10, Volume: 3}})
	// What the cascade was cut off from goes on with the next event.
	saying(t, v, tick(1), 3, "fired 1 0, accepted 5 10 1, traded 5 1 10 1, fired 1 0, accepted 6 10 1, traded 6 1 10 1")
}

func TestExampleThree(t *testing.T) {
	v := running(t, with(func(c *api.Config) { c.Acts = 1 }), one("when has ask do submit buy of 1q at ask ioc, submit buy of 1q at ask ioc, set n = 1;"))
	saying(t, v, sell(2, 10, 5), 1, "accepted 1 10 5, rested 1 10 5, refused 1 0")
	expectStand(t, v, stand(1, api.Running, 0, 0, 0, api.Snap{Ask: 10}))
	expectUsage(t, v, 1, api.Usage{Strats: 1})
	expectRefused(t, v, sell(2, 10, 5), noActs)
	saying(t, v, tick(9), 1, "refused 1 0")
	expectRefused(t, v, sell(2, 10, 5), noActs)
	saying(t, v, tick(10), 1, "refused 1 0")
	// At the price that is the best one already it is no news to client 1.
	saying(t, v, sell(2, 10, 5), 0, "accepted 2 10 5, rested 2 10 5")
}

func TestExampleFour(t *testing.T) {
	v := running(t, plain(), "strategy s { state a { when now > 2t do halt; } }")
	done(t, v, upload(1, "strategy s { state a { when bid > 3p do halt; } }"))
	saying(t, v, start(1, 2), 1, "faulted 2 170")
	expectStand(t, v, api.Standing{ID: 2, Client: 1, Status: api.Faulted, Code: api.ErrMeanAbsent})
	saying(t, v, tick(2), 1, "")
	saying(t, v, tick(3), 1, "fired 1 0, halted 1")
	expectStand(t, v, api.Standing{ID: 1, Client: 1, Status: api.Halted, Snap: api.Snap{Now: 3}})
}

func TestExampleFive(t *testing.T) {
	v := running(t, plain(), "strategy s { slot o; state a { when has ask do cancel o, submit sell of 1q at 5p post as o; } }")
	saying(t, v, buy(2, 6, 1), 1, "accepted 1 6 1, rested 1 6 1")
	saying(t, v, sell(2, 10, 5), 1, "accepted 2 10 5, rested 2 10 5, fired 1 0, reject 1 0 90, reject 1 1 80")
	if api.ErrEngineOrder != 90 || api.ErrPlanCross != 80 {
		t.Error("other numbers")
	}
	expectUsage(t, v, 1, api.Usage{Strats: 1, Acts: 2})
}

func TestExampleSix(t *testing.T) {
	v := made(t, plain())
	id, err := v.Upload(1, "strategy")
	var f *api.Failure
	if id != 0 || !errors.As(err, &f) || f.Call != "upload" || f.At != 8 || !errors.Is(err, api.ErrParseToken) {
		t.Fatal(id, err)
	}
	var source, text *api.Failure
	if !errors.As(f.Err, &source) || source.Call != "Source" || !errors.As(source.Err, &text) || text.Call != "Strategy" || text.At != 8 || text.Err != api.ErrParseToken {
		t.Error(f.Err)
	}
	if no, at := parse.Wrong(err); no != api.ErrParseToken || at != 8 {
		t.Error(no, at)
	}
	expectRefusedAt(t, v, upload(1, "strategy"), api.ErrParseToken, 8)
}

// All of them in one venue, as far as one leaves room for the next: the strategies of each are stopped and dropped behind it, and the book is emptied.
func TestExamplesOneBehindTheOther(t *testing.T) {
	v := made(t, plain())
	empty := func() {
		t.Helper()
		for _, id := range v.Strategies() {
			v.Do(stop(1, id))
			done(t, v, drop(1, id))
		}
		for _, o := range done(t, v, book()).Orders {
			done(t, v, cancel(o.Client, o.ID))
		}
		expectOrders(t, v)
	}

	begun(t, v, 1, hunter)
	saying(t, v, sell(2, 10, 5), 2, "accepted 1 10 5, rested 1 10 5, fired 1 0, accepted 2 10 2, traded 2 1 10 2")
	expectStand(t, v, api.Standing{ID: 1, Client: 1, Status: api.Running, Regs: []int64{1}, Slots: []int{2}, Snap: api.Snap{Ask: 10, Last: 10, Volume: 2}})
	empty()

	begun(t, v, 1, "strategy s { state a { when has ask do submit buy of 1q at ask ioc; } }")
	saying(t, v, sell(2, 10, 5), 3, "accepted 3 10 5, rested 3 10 5, fired 2 0, accepted 4 10 1, traded 4 3 10 1, fired 2 0, accepted 5 10 1, traded 5 3 10 1, fired 2 0, accepted 6 10 1, traded 6 3 10 1, cutoff")
	expectStand(t, v, api.Standing{ID: 2, Client: 1, Status: api.Running, Snap: api.Snap{Ask: 10, Last: 10, Volume: 5}})
	done(t, v, stop(1, 2))
	empty()
	expectUsage(t, v, 1, api.Usage{Acts: 4})
	expectUsage(t, v, 2, api.Usage{Acts: 4})

	// Till 96 of the 100 actions are had, and three more: one is left.
	for range 95 {
		done(t, v, enter(1, api.Now, api.Buy, 1, 1))
	}
	begun(t, v, 1, one("when has ask do submit buy of 1q at ask ioc, submit buy of 1q at ask ioc, set n = 1;"))
	saying(t, v, sell(2, 10, 5), 1, "accepted 102 10 5, rested 102 10 5, refused 3 0")
	expectStand(t, v, stand(3, api.Running, 0, 0, 0, api.Snap{Ask: 10, Last: 10, Volume: 5}))
	done(t, v, enter(1, api.Now, api.Buy, 1, 1))
	expectRefused(t, v, enter(1, api.Now, api.Buy, 1, 1), noActs)
	done(t, v, stop(1, 3))
	done(t, v, tick(10))
	done(t, v, enter(1, api.Now, api.Buy, 1, 1))
	empty()

	done(t, v, upload(1, "strategy s { state a { when bid > 3p do halt; } }"))
	saying(t, v, start(1, 4), 1, "faulted 4 170")
	begun(t, v, 1, "strategy s { state a { when now > 12t do halt; } }")
	saying(t, v, tick(13), 1, "fired 5 0, halted 5")
	empty()

	begun(t, v, 1, "strategy s { slot o; state a { when has ask do cancel o, submit sell of 1q at 5p post as o; } }")
	saying(t, v, buy(2, 6, 1), 1, "accepted 105 6 1, rested 105 6 1")
	saying(t, v, sell(2, 10, 5), 1, "accepted 106 10 5, rested 106 10 5, fired 6 0, reject 6 0 90, reject 6 1 80")

	expectRefusedAt(t, v, upload(1, "strategy"), api.ErrParseToken, 8)
	if id := done(t, v, upload(1, hunter)).ID; id != 7 {
		t.Error(id)
	}
}

// Those examples of DOC.md that are a venue's.
func TestExamplesOfTheWhole(t *testing.T) {
	c := with(func(c *api.Config) { c.Rules.Clients = 3 })
	v := made(t, c)
	done(t, v, sell(1, 10, 5))
	done(t, v, sell(2, 10, 5))
	done(t, v, sell(1, 11, 5))
	ahead := seen(v)
	expectRefused(t, v, enter(3, api.All, api.Buy, 10, 12), api.ErrPlanKill)
	if !same(ahead, seen(v)) {
		t.Error("the book has changed")
	}
	saying(t, v, buy(1, 10, 7), 0, "accepted 4 10 7, yielded 1 10 5, traded 4 2 10 5, rested 4 10 2")

	v = running(t, c, "strategy s { state a { when has bid && bid > 3p do halt; } }")
	saying(t, v, sell(2, 10, 1), 1, "accepted 1 10 1, rested 1 10 1")
	saying(t, v, buy(2, 3, 1), 1, "accepted 2 3 1, rested 2 3 1")
	saying(t, v, buy(2, 4, 1), 1, "accepted 3 4 1, rested 3 4 1, fired 1 0, halted 1")

	v = made(t, c)
	done(t, v, upload(1, one("when 10 / n > 3 || has bid do halt;")))
	saying(t, v, start(1, 1), 1, "faulted 1 11")
	done(t, v, buy(2, 5, 1))
	saying(t, v, start(1, 1), 1, "faulted 1 11")
	done(t, v, upload(1, one("when has bid || 10 / n > 3 do set n = 1;")))
	saying(t, v, start(1, 2), 1, "fired 2 0")
	done(t, v, drop(1, 1))
	done(t, v, upload(1, one("when has bid || 10 / n > 3 do cancel o;")))
	saying(t, v, start(1, 3), 1, "fired 3 0, reject 3 0 90")
	saying(t, v, cancel(2, 1), 1, "withdrawn 1 5 1, fired 2 0, faulted 3 11")
}
