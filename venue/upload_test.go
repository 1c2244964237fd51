package venue_test

import (
	"errors"
	"strings"
	"testing"

	"tripwire/api"
	"tripwire/lower"
	"tripwire/parse"
	"tripwire/venue"
)

// wrong is a source, the layer's number that is told of it, and its place.
type wrong struct {
	source string
	no     api.Errno
	at     int
}

// wrongs are sources that are wrong in each layer.
func wrongs() []wrong {
	many := func(before, each string, n int, behind string) string {
		return before + strings.Repeat(each, n) + behind
	}
	return []wrong{
		{strings.Repeat(" ", 4097), api.ErrLexLong, 0},
		{hunter + strings.Repeat(" ", 4097), api.ErrLexLong, 0},
		{"strategy s & ", api.ErrLexByte, 11},
		{"Strategy", api.ErrLexByte, 0},
		{"strategy abcdefghijklmnopq { }", api.ErrLexName, 9},
		{"strategy s { reg n int = 007; }", api.ErrLexNumber, 25},
		{"", api.ErrParseToken, 0},
		{"strategy", api.ErrParseToken, 8},
		{"strategy s { }", api.ErrParseToken, 13},
		{"strategy s { state a {} } halt", api.ErrParseToken, 26},
		{many("strategy s { ", "slot o;", 5, " state a {} }"), api.ErrParseMany, 41},
		{many("strategy s { state a { when ", "!", 25, "true do halt; } }"), api.ErrParseNest, 52},
		{"strategy s { reg n int = 1; reg n int = 1; state a {} }", api.ErrTypesTwice, 28},
		{"strategy s { state a { when n do halt; } }", api.ErrTypesNone, 28},
		{"strategy s { state a { when bid do halt; } }", api.ErrTypesFit, 28},
		{"strategy s { state a { when bid + 1 > 2p do halt; } }", api.ErrTypesFit, 32},
		{"strategy s { state a { when true do halt, halt; } }", api.ErrTypesLast, 42},
		{"strategy s { state a { when true do cancel o; } }", api.ErrTypesNone, 36},
		{tooMuch(), api.ErrCostMuch, 0},
	}
}

// expectFailure tells whether an upload is refused by this: a Failure of upload around an Errno, or around the error of a source.
func expectFailure(t *testing.T, v *venue.Venue, client int, source string, no api.Errno, at int) {
	t.Helper()
	ahead := seen(v)
	id, err := v.Upload(client, source)
	f, is := err.(*api.Failure)
	if id != 0 || !is || f.Call != "upload" || f.At != at || !errors.Is(err, no) {
		t.Fatalf("Upload(%d, %.60q) is %d, %v; want %d at %d", client, source, id, err, no, at)
	}
	if is, where := parse.Wrong(err); is != no || where != at {
		t.Errorf("%d, %d; want %d, %d", is, where, no, at)
	}
	_, _, below := lower.Source(source)
	switch {
	case no == noOne || no == noPlan:
		if f.Err != error(no) {
			t.Errorf("below is %v; want %d", f.Err, no)
		}
	case !alike(f.Err, below):
		t.Errorf("below is %v; want %v", f.Err, below)
	}
	if behind := seen(v); !same(ahead, behind) {
		t.Errorf("a refused upload changed %+v to %+v", ahead, behind)
	}
}

// alike tells whether two errors are the same Failures around the same Errno.
func alike(a, b error) bool {
	f, is := a.(*api.Failure)
	g, too := b.(*api.Failure)
	if is && too {
		return f.Call == g.Call && f.At == g.At && alike(f.Err, g.Err)
	}
	return a != nil && a == b
}

// A source that is wrong in each layer, by Do and by Upload, with its place; no number is given.
func TestWrongSources(t *testing.T) {
	v := made(t, plain())
	done(t, v, upload(2, hunter))
	for _, x := range wrongs() {
		expectRefusedAt(t, v, upload(1, x.source), x.no, x.at)
		expectFailure(t, v, 1, x.source, x.no, x.at)
	}
	if id, err := v.Upload(1, hunter); id != 2 || err != nil {
		t.Error(id, err)
	}
	// Who has no room is told that first, and who is no client that, with no place.
	done(t, v, upload(1, hunter))
	for _, x := range wrongs() {
		expectRefused(t, v, upload(1, x.source), noPlan)
		expectFailure(t, v, 1, x.source, noPlan, 0)
		for _, client := range nobody(2) {
			expectRefused(t, v, upload(client, x.source), noOne)
			expectFailure(t, v, client, x.source, noOne, 0)
		}
	}
}

// Strats strategies, and one more; one that is dropped makes room; other clients' do not matter.
func TestRoomForStrategies(t *testing.T) {
	for strats := range 9 {
		v := made(t, with(func(c *api.Config) { c.Strats = strats }))
		next := 0
		for range strats {
			for client := 1; client <= 2; client++ {
				next++
				if r := v.Do(upload(client, hunter)); !same(r, api.Reply{ID: next}) {
					t.Error(r)
				}
			}
		}
		for client := 1; client <= 2; client++ {
			expectRefused(t, v, upload(client, hunter), noPlan)
			expectFailure(t, v, client, hunter, noPlan, 0)
			expectUsage(t, v, client, api.Usage{Strats: strats})
		}
		if strats == 0 {
			continue
		}
		done(t, v, drop(1, 1))
		expectUsage(t, v, 1, api.Usage{Strats: strats - 1})
		expectRefused(t, v, upload(2, hunter), noPlan)
		if id, err := v.Upload(1, hunter); id != next+1 || err != nil {
			t.Error(id, err)
		}
		expectRefused(t, v, upload(1, hunter), noPlan)
	}
}

// Of the first client, and the last.
func TestWhoMayUpload(t *testing.T) {
	for clients := 1; clients <= 8; clients++ {
		v := made(t, with(func(c *api.Config) { c.Rules.Clients = clients }))
		for _, client := range nobody(clients) {
			expectRefused(t, v, upload(client, hunter), noOne)
			expectFailure(t, v, client, hunter, noOne, 0)
		}
		for _, client := range []int{1, clients} {
			id := done(t, v, upload(client, hunter)).ID
			if s, is := v.Stand(id); !is || s.Client != client || s.ID != id {
				t.Error(s, is)
			}
		}
	}
}

// An upload does nothing but that: no action is taken, nothing is told, what runs is not evaluated.
func TestAnUploadIsNoNews(t *testing.T) {
	v := running(t, plain(), "strategy s { state a { when has ask do submit buy of 1q at ask ioc; } }")
	done(t, v, sell(2, 10, 50))
	usage := done(t, v, quota(1)).Usage
	if r := v.Do(upload(1, hunter)); !same(r, api.Reply{ID: 2, Top: v.Top()}) {
		t.Error(r)
	}
	usage.Strats++
	expectUsage(t, v, 1, usage)
}

// The longest source that may be, and a strategy with all that one may have.
func TestTheLongestSource(t *testing.T) {
	v := made(t, plain())
	long := hunter + strings.Repeat(" ", 4096-len(hunter))
	if r := v.Do(upload(1, long)); !same(r, api.Reply{ID: 1}) {
		t.Error(r)
	}
	full := "strategy s {"
	for _, r := range "abcdefghijkl" {
		full += " reg " + string(r) + " int = 5;"
	}
	full += " slot a; slot b; slot c; slot d;"
	for _, r := range "abcdefghijkl" {
		full += " state " + string(r) + " {}"
	}
	done(t, v, upload(2, full+" }"))
	expectStand(t, v, api.Standing{ID: 2, Client: 2, Regs: []int64{5, 5, 5, 5, 5, 5, 5, 5, 5, 5, 5, 5}, Slots: []int{0, 0, 0, 0}})
}
