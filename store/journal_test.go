package store_test

import (
	"strings"
	"testing"

	"tripwire/api"
	"tripwire/store"
	"tripwire/venue"
)

// plainFrame is the first frame of plain, written out.
const plainFrame = "\x14\x04\x02\x02\x02\xc8\x01\xc8\x01\x20\x10\xd0\x0f\xd0\x0f\x06\x04\x10\xc8\x01\x14\x74\x47\x7c\x26"

// A new journal has its config's frame alone, and a venue in which nothing was done.
func TestNew(t *testing.T) {
	j, v := made(t, plain())
	if b := j.Bytes(); b != plainFrame || b != modelWritten(plain()) {
		t.Errorf("the first frame is % x", b)
	}
	w, _ := venue.New(plain())
	if !same(seen(v), seen(w)) {
		t.Error(seen(v))
	}
	if j.Bytes() != plainFrame {
		t.Error("to ask has changed the bytes")
	}
}

// turns are a config's numbers, in the order in which they are written, each with the least and the greatest that may be.
func turns() []struct {
	least, most int64
	lay         func(c *api.Config, n int64)
} {
	return []struct {
		least, most int64
		lay         func(c *api.Config, n int64)
	}{
		{1, 8, func(c *api.Config, n int64) { c.Rules.Clients = int(n) }},
		{1, 1000000000, func(c *api.Config, n int64) { c.Rules.Tick = n }},
		{1, 1000000000, func(c *api.Config, n int64) { c.Rules.Lot = n }},
		{1, 1000000000, func(c *api.Config, n int64) { c.Rules.Low = n }},
		{1, 1000000000, func(c *api.Config, n int64) { c.Rules.High = n }},
		{1, 1000000000, func(c *api.Config, n int64) { c.Rules.Most = n }},
		{1, 256, func(c *api.Config, n int64) { c.Orders = int(n) }},
		{1, 128, func(c *api.Config, n int64) { c.Levels = int(n) }},
		{0, 1000000000000000, func(c *api.Config, n int64) { c.Volume = n }},
		{0, 1000000000, func(c *api.Config, n int64) { c.IDs = int(n) }},
		{1, 16, func(c *api.Config, n int64) { c.Rounds = int(n) }},
		{0, 8, func(c *api.Config, n int64) { c.Strats = int(n) }},
		{0, 256, func(c *api.Config, n int64) { c.Open = int(n) }},
		{0, 1000000, func(c *api.Config, n int64) { c.Acts = int(n) }},
		{1, 1000000000000000, func(c *api.Config, n int64) { c.Window = n }},
	}
}

// expectNew tells whether New of a config is as venue's New has it, and so Open of its frame.
func expectNew(t *testing.T, c api.Config) api.Errno {
	t.Helper()
	_, want := venue.New(c)
	if want != api.OK {
		if j, v, no := store.New(c); j != nil || v != nil || no != want {
			t.Errorf("New(%+v) is %v, %v, %d; want %d", c, j, v, no, want)
		}
		expectNotOpened(t, modelWritten(c), want)
		return want
	}
	j, v := made(t, c)
	if b := j.Bytes(); b != modelWritten(c) {
		t.Errorf("the first frame of %+v is % x; want % x", c, b, modelWritten(c))
	}
	k, w := opened(t, j.Bytes(), len(j.Bytes()))
	if !same(seen(v), seen(w)) || k.Bytes() != j.Bytes() {
		t.Error(seen(v), seen(w))
	}
	return api.OK
}

// Each number of a config stands in its own place, and has all its bytes.
func TestEachNumberOfAConfig(t *testing.T) {
	reached := map[api.Errno]int{}
	for _, turn := range turns() {
		for _, n := range []int64{turn.least, turn.most, turn.least + 1, turn.most - 1, turn.least - 1, turn.most + 1, 0, -1, 63, 64, 127, 128, 1 << 32, 1<<32 + 1, least, least + 1, greatest} {
			c := plain()
			turn.lay(&c, n)
			reached[expectNew(t, c)]++
		}
	}
	expectReached(t, reached, 10, api.OK, api.ErrRulesConfig, api.ErrArg, api.ErrVenueConfig)
}

// What a config that may not be is refused by, written out; of several wrong at once, the first.
func TestWhatNewRefuses(t *testing.T) {
	for _, x := range []struct {
		turn func(c *api.Config)
		want api.Errno
	}{
		{func(c *api.Config) { *c = api.Config{} }, api.ErrRulesConfig},
		{func(c *api.Config) { c.Rules.Clients = 9 }, api.ErrRulesConfig},
		{func(c *api.Config) { c.Rules.Tick, c.Orders, c.Acts, c.Rounds = 0, 0, -1, 0 }, api.ErrRulesConfig},
		{func(c *api.Config) { c.Orders = 257 }, api.ErrArg},
		{func(c *api.Config) { c.Levels, c.Rounds = 0, 0 }, api.ErrArg},
		{func(c *api.Config) { c.Volume = -1 }, api.ErrArg},
		{func(c *api.Config) { c.IDs = 1000000001 }, api.ErrArg},
		{func(c *api.Config) { c.Strats, c.Open = 9, 257 }, api.ErrArg},
		{func(c *api.Config) { c.Acts = 1000001 }, api.ErrArg},
		{func(c *api.Config) { c.Window = 0 }, api.ErrArg},
		{func(c *api.Config) { c.Rounds = 17 }, api.ErrVenueConfig},
		{func(c *api.Config) { c.Open = -1 }, api.ErrVenueConfig},
		{func(c *api.Config) { c.Rounds, c.Open = 0, 257 }, api.ErrVenueConfig},
	} {
		if is := expectNew(t, with(x.turn)); is != x.want {
			t.Errorf("%+v is refused by %d; want %d", with(x.turn), is, x.want)
		}
	}
}

// Drawn configs with some numbers that may not be.
func TestDrawnConfigs(t *testing.T) {
	reached := map[api.Errno]int{}
	for seed := range uint64(1000) {
		d := drawn(seed + 2000)
		all := turns()
		for range d.below(4) {
			all[d.below(len(all))].lay(&d.c, d.edge())
		}
		reached[expectNew(t, d.c)]++
	}
	expectReached(t, reached, 20, api.OK, api.ErrRulesConfig, api.ErrArg, api.ErrVenueConfig)
}

// The frames of commands, written out, behind the first one.
func TestFrames(t *testing.T) {
	j, _ := made(t, plain())
	want := plainFrame
	for _, x := range []struct {
		c     api.Command
		frame string
	}{
		{tick(5), "\x02\x04\x0a\x9b\xb7\x6c\x7f"},
		{book(), "\x01\x09\x24\x68\x0c\x0c"},
		{enter(1, api.Limit, api.Buy, 10, 7), "\x06\x01\x02\x01\x01\x14\x0e\x46\xde\x97\x4f"},
	} {
		done(t, j, x.c)
		want += x.frame
		if b := j.Bytes(); b != want {
			t.Errorf("the bytes are % x; want % x", b, want)
		}
	}
}

// expectDone tells whether a command comes to what a venue makes of it, and is written down behind all others.
func expectDone(t *testing.T, j *store.Journal, w *venue.Venue, c api.Command) api.Reply {
	t.Helper()
	ahead := j.Bytes()
	content, _ := modelBytes(c)
	want := w.Do(named(c))
	if r, no := j.Do(c); !same(r, want) || no != api.OK {
		t.Fatalf("%s is %+v, %d; want %+v", short(c), r, no, want)
	}
	if b := j.Bytes(); b != ahead+modelFrame(content) {
		t.Fatalf("behind %s the bytes are %s; want %s", short(c), short(b[len(ahead):]), short(modelFrame(content)))
	}
	return want
}

// Each command is done, and written down: one that a venue refuses, too.
func TestDo(t *testing.T) {
	j, v := made(t, plain())
	w, _ := venue.New(plain())
	refused, told, cut := 0, 0, 0
	for _, c := range busy() {
		r := expectDone(t, j, w, c)
		if r.Err != api.OK {
			refused++
		}
		if len(r.Told) > 3 {
			told++
		}
		if n := len(r.Told); n > 0 && r.Told[n-1].Tell == api.TellCutoff {
			cut++
		}
		if !same(seen(v), seen(w)) {
			t.Fatalf("behind %s %+v; want %+v", short(c), seen(v), seen(w))
		}
	}
	if refused < 8 || told < 4 || cut < 1 {
		t.Errorf("%d were refused, %d told something, %d were cut off", refused, told, cut)
	}
	if b := j.Bytes(); b != modelWritten(plain(), busy()...) {
		t.Errorf("the bytes are %s", short(b))
	}
}

// What an Op does not name is not done, and not written.
func TestWhatAnOpDoesNotName(t *testing.T) {
	j, v := made(t, plain())
	w, _ := venue.New(plain())
	for _, c := range busy() {
		expectDone(t, j, w, noisy(c))
	}
	if !same(seen(v), seen(w)) || j.Bytes() != modelWritten(plain(), busy()...) {
		t.Errorf("%+v; want %+v", seen(v), seen(w))
	}
}

// Drawn scripts, with whatever an Op does not name.
func TestDrawnScripts(t *testing.T) {
	reached := map[api.Errno]int{}
	for seed := range uint64(100) {
		d := drawn(seed + 3000)
		j, v := made(t, d.c)
		w, _ := venue.New(d.c)
		for range 60 {
			c := d.command(v)
			if _, is := modelBytes(c); !is {
				expectRefused(t, j, v, c, noForm)
				reached[noForm]++
				continue
			}
			reached[expectDone(t, j, w, c).Err]++
		}
		if !same(seen(v), seen(w)) {
			t.Fatalf("%+v; want %+v", seen(v), seen(w))
		}
	}
	expectReached(t, reached, 10, api.OK, noForm, api.ErrEngineOrder, api.ErrVenueStrategy, api.ErrVenueRuns, api.ErrParseToken)
}

// What Command refuses is neither written nor done.
func TestWhatIsNoCommand(t *testing.T) {
	j, v := written(t, plain(), busy()...)
	for _, op := range []api.Op{0, 12, 13, 128, 255} {
		expectRefused(t, j, v, api.Command{Op: op}, noForm)
		c := noisy(sell(1, 20, 1))
		c.Op = op
		expectRefused(t, j, v, c, noForm)
	}
	for _, size := range []int{65537, 65538, 100000, 1100000} {
		expectRefused(t, j, v, upload(1, blanks(size)), noForm)
	}
	// And it goes on.
	ahead := j.Bytes()
	done(t, j, book())
	if j.Bytes() != ahead+modelFrame("\x09") {
		t.Error(short(j.Bytes()))
	}
}

// A command's bytes may be 65536: its Source is a little less then, by how long its client's number is.
func TestTheLongestCommand(t *testing.T) {
	for _, x := range []struct{ client, most int }{{1, 65531}, {-64, 65531}, {64, 65530}, {least, 65522}} {
		j, v := made(t, plain())
		ahead := j.Bytes()
		for _, more := range []int{1, 2, 3, 4, 5} {
			expectRefused(t, j, v, upload(x.client, blanks(x.most+more)), noForm)
		}
		expectRefused(t, j, v, upload(x.client, blanks(65536)), noForm)
		want := api.ErrVenueClient
		if x.client == 1 {
			want = api.ErrLexLong
		}
		for k, less := range []int{0, 1, 2} {
			if r := done(t, j, upload(x.client, blanks(x.most-less))); !same(r, api.Reply{Err: want}) {
				t.Errorf("%+v; want %d", r, want)
			}
			if l := len(j.Bytes()) - len(ahead); l != 3+65536-less+4 {
				t.Errorf("%d bytes more at %d", l, k)
			}
			ahead = j.Bytes()
		}
		opened(t, ahead, len(ahead))
	}
}

// filled is a journal of just so many bytes, and its venue, in which nothing was done that was not refused.
func filled(t *testing.T, bytes int) (*store.Journal, *venue.Venue) {
	t.Helper()
	const most, beside = 65531, 12
	j, v := made(t, plain())
	for {
		left := bytes - len(j.Bytes())
		size := most
		switch {
		case left == 0:
			return j, v
		case left <= most+beside:
			size = left - beside
		case left <= 2*(most+beside):
			size = left/2 - beside
		}
		if r := done(t, j, upload(1, blanks(size))); r.Err != api.ErrLexLong {
			t.Fatal(r)
		}
	}
}

// With some bytes of room a command is refused just if its frame has more; and where it is no command, or too long, that comes first.
func TestRoom(t *testing.T) {
	all := []api.Command{upload(1, blanks(65531)), sell(1, 1<<40, 1<<40), sell(1, 10, 1), tick(1), status(1), book(), tick(1), book()}
	reached := map[bool]int{}
	for _, room := range []int{0, 1, 5, 6, 7, 8, 12, 13, 20, 100, 65542, 65543, 65544} {
		j, v := filled(t, mostBytes-room)
		w, _ := venue.New(plain())
		for _, c := range all {
			content, _ := modelBytes(c)
			fits := len(j.Bytes())+len(modelFrame(content)) <= mostBytes
			reached[fits]++
			if fits {
				expectDone(t, j, w, c)
			} else {
				expectRefused(t, j, v, c, full)
			}
		}
		for _, c := range []api.Command{{}, {Op: 12}, upload(1, blanks(65532)), upload(1, blanks(65537))} {
			expectRefused(t, j, v, c, noForm)
		}
		if !same(seen(v), seen(w)) {
			t.Errorf("%+v; want %+v", seen(v), seen(w))
		}
		opened(t, j.Bytes(), len(j.Bytes()))
	}
	expectReached(t, reached, 20, true, false)
}

// Written out: one below, at, and above as many as may be.
func TestTheLastFrame(t *testing.T) {
	at, _ := filled(t, mostBytes-6)
	done(t, at, book())
	if len(at.Bytes()) != mostBytes {
		t.Error(len(at.Bytes()))
	}
	below, _ := filled(t, mostBytes-7)
	done(t, below, book())
	if len(below.Bytes()) != mostBytes-1 {
		t.Error(len(below.Bytes()))
	}
	above, v := filled(t, mostBytes-5)
	expectRefused(t, above, v, book(), full)
	for _, j := range []*store.Journal{at, below, above} {
		b := j.Bytes()
		k, w := opened(t, b, len(b))
		expectRefused(t, k, w, book(), full)
		if k.Bytes() != b {
			t.Error(short(k.Bytes()))
		}
	}
	// Of an upload that fits to the last byte.
	j, _ := filled(t, mostBytes-(3+65536+4))
	done(t, j, upload(1, blanks(65531)))
	if len(j.Bytes()) != mostBytes {
		t.Error(len(j.Bytes()))
	}
	j, v = filled(t, mostBytes-(3+65536+4)+1)
	expectRefused(t, j, v, upload(1, blanks(65531)), full)
	done(t, j, upload(1, blanks(65530)))
}

// As many commands as there is room for, of one byte each: it takes no longer than that they are done, and opened.
func TestManyFrames(t *testing.T) {
	j, v := made(t, plain())
	n := 0
	for ; ; n++ {
		if _, no := j.Do(book()); no != api.OK {
			expectRefused(t, j, v, book(), full)
			break
		}
	}
	if want := (mostBytes - len(plainFrame)) / 6; n != want {
		t.Errorf("%d commands; want %d", n, want)
	}
	b := j.Bytes()
	if b != plainFrame+strings.Repeat(modelFrame("\x09"), n) {
		t.Error(short(b))
	}
	opened(t, b, len(b))
}

// The venue that New tells is the journal's own, and what is done to it by its own calls is not written down.
func TestTheVenueIsItsOwn(t *testing.T) {
	j, v := made(t, plain())
	done(t, j, upload(1, hunter))
	if l := v.Strategies(); len(l) != 1 || l[0] != 1 {
		t.Error(l)
	}
	bytes := j.Bytes()
	v.Do(start(1, 1))
	if id, err := v.Upload(2, clock); id != 2 || err != nil {
		t.Error(id, err)
	}
	v.Do(tick(3))
	if j.Bytes() != bytes {
		t.Error(short(j.Bytes()))
	}
	// What the journal does comes upon what was done there.
	if r := done(t, j, sell(2, 10, 5)); r.ID != 1 || r.Rounds != 2 || r.Top.Volume != 2 {
		t.Errorf("%+v", r)
	}
	if j.Bytes() != modelWritten(plain(), upload(1, hunter), sell(2, 10, 5)) || v.Now() != 3 || v.Top().Volume != 2 {
		t.Error(short(j.Bytes()), v.Now(), v.Top())
	}
	// Opened, it is without that.
	k, w := opened(t, j.Bytes(), len(j.Bytes()))
	if w.Now() != 0 || w.Top().Volume != 0 || len(w.Strategies()) != 1 {
		t.Error(seen(w))
	}
	done(t, k, start(1, 1))
	if s, _ := w.Stand(1); s.Status != api.Running || len(v.Strategies()) != 2 {
		t.Error(s)
	}
}

// Who writes into a reply changes nothing of what comes later.
func TestRepliesAreNew(t *testing.T) {
	j, _ := made(t, plain())
	w, _ := venue.New(plain())
	for _, c := range busy() {
		r := expectDone(t, j, w, c)
		again, _ := j.Do(book())
		w.Do(book())
		for _, x := range []api.Reply{r, again} {
			for i := range x.Told[:cap(x.Told)] {
				x.Told[:cap(x.Told)][i] = api.Told{Tell: 77}
			}
			for i := range x.Orders[:cap(x.Orders)] {
				x.Orders[:cap(x.Orders)][i] = api.Order{ID: 77}
			}
			for i := range x.Stand.Regs {
				x.Stand.Regs[i] = 77
			}
			for i := range x.Stand.Slots {
				x.Stand.Slots[i] = 77
			}
		}
	}
}
