package venue_test

import (
	"testing"

	"tripwire/api"
	"tripwire/venue"
)

// expectAlike tells whether a venue answers a command as its model does, and stands as that does: so.
func expectAlike(t *testing.T, v *venue.Venue, m *model, c api.Command) (api.Reply, dump) {
	t.Helper()
	r, want := v.Do(c), m.Do(c)
	if !same(r, want) {
		t.Fatalf("%+v\n%+v is\n%+v; want\n%+v", m.c, c, r, want)
	}
	is := seen(v)
	if want := seen(m); !same(is, want) {
		t.Fatalf("%+v\nbehind %+v it is\n%+v; want\n%+v", m.c, c, is, want)
	}
	return r, is
}

// T3: whatever commands come, each reply is the model's, and so is all that can be asked behind it.
func TestTheVenueIsItsModel(t *testing.T) {
	reached := map[string]int{}
	rounds := map[int]int{}
	script := func(d *drawer, commands int) {
		v, m := made(t, d.c), newModel(d.c)
		behind := seen(v)
		for range commands {
			c := d.command(behind)
			var r api.Reply
			r, behind = expectAlike(t, v, m, c)
			count(reached, r)
			rounds[r.Rounds]++
		}
	}
	for seed := range uint64(1500) {
		script(drawn(seed), 60)
	}
	for seed := range uint64(300) {
		script(long(seed+100000), 200)
	}
	expectEverything(t, reached)
	expectReached(t, rounds, 50, 0, 1, 2, 3, 5, 16)
}

// count counts what a command came to.
func count(reached map[string]int, r api.Reply) {
	reached[r.Err.Error()]++
	for _, x := range r.Told {
		switch x.Tell {
		case api.TellEvent:
			reached[eventText(api.Event{What: x.Event.What})]++
		case api.TellReject, api.TellFaulted:
			reached[toldText(api.Told{Tell: x.Tell, Code: x.Code})]++
		default:
			reached[toldText(api.Told{Tell: x.Tell})]++
		}
	}
	if r.Rounds > 0 && r.Steps == 0 {
		reached["rounds without a step"]++
	}
}

// expectEverything tells whether all came of what can come.
func expectEverything(t *testing.T, reached map[string]int) {
	t.Helper()
	expectReached(t, reached, 30, "error 0", "error 220", "error 221", "error 222", "error 231", "error 232", "error 233", "error 234", "error 235", "error 236", "error 237",
		"error 71", "error 72", "error 74", "error 75", "error 60", "error 61", "error 80", "error 81", "error 90", "error 91", "error 92", "error 93", "error 94")
	expectReached(t, reached, 3, "error 130", "error 111", "error 112", "error 150", "error 151", "error 152", "error 160")
	expectReached(t, reached, 100, "accepted 0 0 0", "traded 0 0 0 0", "withdrawn 0 0 0", "yielded 0 0 0", "dropped 0 0 0", "rested 0 0 0", "amended 0 0 0", "reduced 0 0 0",
		"fired 0 0", "refused 0 0", "halted 0", "faulted 0 11", "faulted 0 170", "cutoff", "rounds without a step")
	expectReached(t, reached, 30, "reject 0 0 221", "reject 0 0 74", "reject 0 0 75", "reject 0 0 60", "reject 0 0 61", "reject 0 0 80", "reject 0 0 81", "reject 0 0 90", "reject 0 0 92", "reject 0 0 93", "reject 0 0 94")
}
