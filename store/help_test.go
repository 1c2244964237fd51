package store_test

import (
	"fmt"
	"math"
	"reflect"
	"strings"
	"testing"

	"tripwire/api"
	"tripwire/store"
	"tripwire/venue"
)

const (
	noForm = api.ErrStoreForm
	full   = api.ErrStoreFull

	least, greatest = math.MinInt64, math.MaxInt64
	lastTime        = 1000000000000000
	mostText        = 65536
	mostBytes       = 1048576
)

// plain is the config of the venue's examples.
func plain() api.Config {
	return api.Config{
		Rules:  api.Rules{Clients: 2, Tick: 1, Lot: 1, Low: 1, High: 100, Most: 100},
		Orders: 16, Levels: 8, Volume: 1000, IDs: 1000,
		Rounds: 3, Strats: 2, Open: 8, Acts: 100, Window: 10,
	}
}

// with is plain with something else in it.
func with(turn func(c *api.Config)) api.Config {
	c := plain()
	turn(&c)
	return c
}

// Strategies: one that buys once, one that buys in each round, one that counts the times, one that faults, one whose actions are refused.
const (
	hunter  = "strategy s { reg n int = 0; slot o; state a { when has ask && n < 1 do submit buy of 2q at ask limit as o, set n = n + 1; } }"
	taker   = "strategy s { state a { when has ask do submit buy of 1q at ask ioc; } }"
	clock   = "strategy s { reg n int = 0; state a { when int(now) > n do set n = int(now); } }"
	faulter = "strategy s { state a { when bid > 3p do halt; } }"
	poster  = "strategy s { slot o; state a { when has bid do cancel o, submit sell of 1q at 5p post as o, goto b; } state b { when !has bid do goto a; } }"
)

// Commands, by their Ops.

func enter(client int, kind api.Kind, side api.Side, price, qty int64) api.Command {
	return api.Command{Op: api.OpEnter, Client: client, Entry: api.Entry{Kind: kind, Side: side, Price: price, Qty: qty}}
}

func buy(client int, price, qty int64) api.Command {
	return enter(client, api.Limit, api.Buy, price, qty)
}

func sell(client int, price, qty int64) api.Command {
	return enter(client, api.Limit, api.Sell, price, qty)
}

func amend(client, id int, price, qty int64) api.Command {
	return api.Command{Op: api.OpAmend, Client: client, ID: id, Price: price, Qty: qty}
}

func cancel(client, id int) api.Command {
	return api.Command{Op: api.OpCancel, Client: client, ID: id}
}

func tick(time int64) api.Command { return api.Command{Op: api.OpTick, Time: time} }

func upload(client int, source string) api.Command {
	return api.Command{Op: api.OpUpload, Client: client, Source: source}
}

func start(client, id int) api.Command { return api.Command{Op: api.OpStart, Client: client, ID: id} }

func stop(client, id int) api.Command { return api.Command{Op: api.OpStop, Client: client, ID: id} }

func drop(client, id int) api.Command { return api.Command{Op: api.OpDrop, Client: client, ID: id} }

func status(id int) api.Command { return api.Command{Op: api.OpStatus, ID: id} }

func quota(client int) api.Command { return api.Command{Op: api.OpQuota, Client: client} }

func book() api.Command { return api.Command{Op: api.OpBook} }

// busy is a script of which much comes: uploads, starts, cascades, one that is cut off, commands that are refused, and each Op.
func busy() []api.Command {
	return []api.Command{
		upload(1, hunter), start(1, 1), sell(2, 10, 5), status(1), quota(1), upload(2, taker), start(2, 2), upload(1, "strategy"), upload(1, clock), tick(3), sell(1, 9, 50), start(1, 3),
		tick(4), book(), amend(1, 3, 8, 7), cancel(2, 1), cancel(1, 1), stop(2, 2), drop(2, 2), drop(1, 9), upload(2, faulter), start(2, 4), status(4), upload(2, poster), start(2, 5), buy(1, 6, 3),
		enter(2, api.Market, api.Sell, 0, 1), enter(1, api.All, api.Buy, 1, 100), enter(1, 77, api.Buy, 1, 1), tick(4), tick(2), tick(25), quota(2), amend(2, 4, 50, 1), status(5), book(), start(1, 1), sell(2, 20, 9),
	}
}

// made is a journal of a config that may be, and its venue.
func made(t *testing.T, c api.Config) (*store.Journal, *venue.Venue) {
	t.Helper()
	j, v, no := store.New(c)
	if j == nil || v == nil || no != api.OK {
		t.Fatalf("New(%+v) is %v, %v, %d", c, j, v, no)
	}
	return j, v
}

// done is the reply to a command that is written down.
func done(t *testing.T, j *store.Journal, c api.Command) api.Reply {
	t.Helper()
	r, no := j.Do(c)
	if no != api.OK {
		t.Fatalf("%s is refused by %d", short(c), no)
	}
	return r
}

// written is a journal of these commands, and its venue.
func written(t *testing.T, c api.Config, l ...api.Command) (*store.Journal, *venue.Venue) {
	t.Helper()
	j, v := made(t, c)
	for _, x := range l {
		done(t, j, x)
	}
	return j, v
}

// expectRefused tells whether a command is refused by this, with nothing beside, and nothing has changed.
func expectRefused(t *testing.T, j *store.Journal, v *venue.Venue, c api.Command, want api.Errno) {
	t.Helper()
	bytes, ahead := j.Bytes(), seen(v)
	if r, no := j.Do(c); no != want || want == api.OK || !same(r, api.Reply{}) {
		t.Errorf("%s is %+v, %d; want %d", short(c), r, no, want)
	}
	if j.Bytes() != bytes || !same(seen(v), ahead) {
		t.Errorf("%s was refused, and changed something", short(c))
	}
}

// opened is what Open makes of bytes of which so many are a journal's.
func opened(t *testing.T, b string, taken int) (*store.Journal, *venue.Venue) {
	t.Helper()
	j, v, n, no := store.Open(b)
	if j == nil || v == nil || n != taken || no != api.OK {
		t.Fatalf("Open(%s) is %v, %v, %d, %d; want %d bytes", short(b), j, v, n, no, taken)
	}
	if j.Bytes() != b[:taken] {
		t.Fatalf("Open(%s) has the bytes %s", short(b), short(j.Bytes()))
	}
	return j, v
}

// expectNotOpened tells whether Open refuses bytes by this, with nothing beside.
func expectNotOpened(t *testing.T, b string, want api.Errno) {
	t.Helper()
	if j, v, n, no := store.Open(b); j != nil || v != nil || n != 0 || no != want || want == api.OK {
		t.Errorf("Open(%s) is %v, %v, %d, %d; want %d", short(b), j, v, n, no, want)
	}
}

// expectBytes tells whether a command's bytes are these, and they are read as it is, but for what its Op does not name: whatever stands ahead and behind.
func expectBytes(t *testing.T, c api.Command, want string) {
	t.Helper()
	if b, no := store.Command(c); b != want || no != api.OK {
		t.Errorf("Command(%s) is %s, %d; want %s", short(c), short(b), no, short(want))
	}
	for _, ahead := range []string{"", "\x00", "\xff\x80", want} {
		for _, behind := range []string{"", "\x00", "\x80", "\xff", want} {
			expectRead(t, ahead+want+behind, len(ahead), named(c), len(ahead)+len(want))
		}
	}
}

func expectRead(t *testing.T, b string, at int, want api.Command, behind int) {
	t.Helper()
	if c, to, no := store.Read(b, at); c != want || to != behind || no != api.OK {
		t.Errorf("Read(%s, %d) is %s, %d, %d; want %s, %d", short(b), at, short(c), to, no, short(want), behind)
	}
}

// expectNoRead tells whether no command stands at a place.
func expectNoRead(t *testing.T, b string, at int) {
	t.Helper()
	if c, to, no := store.Read(b, at); c != (api.Command{}) || to != at || no != noForm {
		t.Errorf("Read(%s, %d) is %s, %d, %d; want none", short(b), at, short(c), to, no)
	}
}

// expectNoBytes tells whether a command is refused.
func expectNoBytes(t *testing.T, c api.Command) {
	t.Helper()
	if b, no := store.Command(c); b != "" || no != noForm {
		t.Errorf("Command(%s) is %s, %d; want it refused", short(c), short(b), no)
	}
}

// named is a command without what its Op does not name.
func named(c api.Command) api.Command {
	x := api.Command{Op: c.Op}
	switch c.Op {
	case api.OpEnter:
		x.Client, x.Entry = c.Client, c.Entry
		x.Entry.Client = 0
	case api.OpAmend:
		x.Client, x.ID, x.Price, x.Qty = c.Client, c.ID, c.Price, c.Qty
	case api.OpCancel, api.OpStart, api.OpStop, api.OpDrop:
		x.Client, x.ID = c.Client, c.ID
	case api.OpTick:
		x.Time = c.Time
	case api.OpUpload:
		x.Client, x.Source = c.Client, c.Source
	case api.OpStatus:
		x.ID = c.ID
	case api.OpQuota:
		x.Client = c.Client
	}
	return x
}

// noisy is a command with something in each place that its Op does not name.
func noisy(c api.Command) api.Command {
	x := api.Command{Op: c.Op, Client: 71, Entry: api.Entry{Kind: 72, Side: 73, Price: -74, Qty: least}, ID: -75, Price: 76, Qty: greatest, Time: -77, Source: "noise"}
	switch c.Op {
	case api.OpEnter:
		x.Client, x.Entry = c.Client, c.Entry
	case api.OpAmend:
		x.Client, x.ID, x.Price, x.Qty = c.Client, c.ID, c.Price, c.Qty
	case api.OpCancel, api.OpStart, api.OpStop, api.OpDrop:
		x.Client, x.ID = c.Client, c.ID
	case api.OpTick:
		x.Time = c.Time
	case api.OpUpload:
		x.Client, x.Source = c.Client, c.Source
	case api.OpStatus:
		x.ID = c.ID
	case api.OpQuota:
		x.Client = c.Client
	}
	x.Entry.Client = 78
	return x
}

// dump is all that can be asked of a venue.
type dump struct {
	Top        api.Top
	Now        int64
	Strategies []int
	Stands     []api.Standing
	Orders     []api.Order
	Usages     []api.Usage
}

func seen(v *venue.Venue) dump {
	d := dump{Top: v.Top(), Now: v.Now(), Strategies: v.Strategies(), Orders: v.Do(book()).Orders}
	for _, id := range d.Strategies {
		s, _ := v.Stand(id)
		d.Stands = append(d.Stands, s)
	}
	for client := 1; client <= api.MaxClients; client++ {
		d.Usages = append(d.Usages, v.Do(quota(client)).Usage)
	}
	return d
}

// same tells whether two things are one; a list that is nil is an empty one (R6).
func same(a, b any) bool {
	return reflect.DeepEqual(a, b) || fmt.Sprintf("%+v", a) == fmt.Sprintf("%+v", b)
}

// short is a thing as a text that is not too long to be read; bytes as hex.
func short(x any) string {
	s := fmt.Sprintf("%+v", x)
	if b, is := x.(string); is {
		s = fmt.Sprintf("% x", b)
	}
	if len(s) > 300 {
		return fmt.Sprintf("%s .. (%d)", s[:300], len(s))
	}
	return s
}

// blanks is a source of so many bytes, which is none of a strategy.
func blanks(n int) string { return strings.Repeat(" ", n) }

// draw answers numbers that look drawn, and are the same each time.
func draw(from uint64) func(below int) int {
	return func(below int) int {
		from += 0x9e3779b97f4a7c15
		z := from
		z = (z ^ z>>30) * 0xbf58476d1ce4e5b9
		z = (z ^ z>>27) * 0x94d049bb133111eb
		return int((z ^ z>>31) % uint64(below))
	}
}

// expectReached tells whether each of these came so often.
func expectReached[K comparable](t *testing.T, reached map[K]int, often int, all ...K) {
	t.Helper()
	for _, k := range all {
		if reached[k] < often {
			t.Errorf("%v was reached %d times", k, reached[k])
		}
	}
}
