package venue_test

import (
	"fmt"
	"math"
	"reflect"
	"slices"
	"strings"
	"testing"

	"tripwire/api"
	"tripwire/venue"
)

const (
	noActs  = api.ErrQuotaActs
	noOpen  = api.ErrQuotaOpen
	noPlan  = api.ErrQuotaPlan
	noOp    = api.ErrVenueOp
	noOne   = api.ErrVenueClient
	noTime  = api.ErrVenueTime
	noStrat = api.ErrVenueStrategy
	noOwner = api.ErrVenueOwner
	runs    = api.ErrVenueRuns
	stopped = api.ErrVenueStopped
	noOrder = api.ErrEngineOrder

	least, greatest = math.MinInt64, math.MaxInt64
	lastTime        = 1000000000000000
)

// plain is the config of the chapter's examples.
func plain() api.Config {
	return api.Config{
		Rules:  api.Rules{Clients: 2, Tick: 1, Lot: 1, Low: 1, High: 100, Most: 100},
		Orders: 16, Levels: 8, Volume: 1000, IDs: 1000,
		Rounds: 3, Strats: 2, Open: 8, Acts: 100, Window: 10,
	}
}

// with is plain with something else in it.
func with(turn func(c *api.Config)) api.Config {
	c := plain()
	turn(&c)
	return c
}

// made is a venue of a config that may be.
func made(t *testing.T, c api.Config) *venue.Venue {
	t.Helper()
	v, no := venue.New(c)
	if v == nil || no != api.OK {
		t.Fatalf("New(%+v) is %v, %d", c, v, no)
	}
	return v
}

// running is one in which client 1 has uploaded and started these.
func running(t *testing.T, c api.Config, sources ...string) *venue.Venue {
	t.Helper()
	v := made(t, c)
	for _, s := range sources {
		begun(t, v, 1, s)
	}
	return v
}

// begun uploads a strategy of a client, and starts it; its number.
func begun(t *testing.T, v *venue.Venue, client int, source string) int {
	t.Helper()
	id := done(t, v, upload(client, source)).ID
	done(t, v, start(client, id))
	return id
}

// Commands, by their Ops.

func enter(client int, kind api.Kind, side api.Side, price, qty int64) api.Command {
	return api.Command{Op: api.OpEnter, Client: client, Entry: api.Entry{Kind: kind, Side: side, Price: price, Qty: qty}}
}

func buy(client int, price, qty int64) api.Command {
	return enter(client, api.Limit, api.Buy, price, qty)
}

func sell(client int, price, qty int64) api.Command {
	return enter(client, api.Limit, api.Sell, price, qty)
}

func amend(client, id int, price, qty int64) api.Command {
	return api.Command{Op: api.OpAmend, Client: client, ID: id, Price: price, Qty: qty}
}

func cancel(client, id int) api.Command {
	return api.Command{Op: api.OpCancel, Client: client, ID: id}
}

func tick(time int64) api.Command { return api.Command{Op: api.OpTick, Time: time} }

func upload(client int, source string) api.Command {
	return api.Command{Op: api.OpUpload, Client: client, Source: source}
}

func start(client, id int) api.Command { return api.Command{Op: api.OpStart, Client: client, ID: id} }

func stop(client, id int) api.Command { return api.Command{Op: api.OpStop, Client: client, ID: id} }

func drop(client, id int) api.Command { return api.Command{Op: api.OpDrop, Client: client, ID: id} }

func status(id int) api.Command { return api.Command{Op: api.OpStatus, ID: id} }

func quota(client int) api.Command { return api.Command{Op: api.OpQuota, Client: client} }

func book() api.Command { return api.Command{Op: api.OpBook} }

// one is a strategy of one state with these rules, a register n (0 at first) and slots o and u.
func one(rules string) string {
	return "strategy s { reg n int = 0; slot o; slot u; state a { " + rules + " } }"
}

// idle never fires.
func idle() string { return "strategy s { state a {} }" }

// done is the reply to a command that must not be refused.
func done(t *testing.T, v *venue.Venue, c api.Command) api.Reply {
	t.Helper()
	r := v.Do(c)
	if r.Err != api.OK {
		t.Fatalf("%+v is refused by %d", c, r.Err)
	}
	return r
}

// saying is the reply to a command, of whose Told this must be the text, in so many rounds.
func saying(t *testing.T, v *venue.Venue, c api.Command, rounds int, told string) api.Reply {
	t.Helper()
	r := done(t, v, c)
	if is := text(r.Told); is != told {
		t.Errorf("%+v tells %q; want %q", c, is, told)
	}
	if r.Rounds != rounds {
		t.Errorf("%+v has %d rounds; want %d", c, r.Rounds, rounds)
	}
	return r
}

// expectRefused tells whether a command is refused by this, with nothing beside, and nothing has changed.
func expectRefused(t *testing.T, v *venue.Venue, c api.Command, want api.Errno) {
	t.Helper()
	expectRefusedAt(t, v, c, want, 0)
}

func expectRefusedAt(t *testing.T, v *venue.Venue, c api.Command, want api.Errno, at int) {
	t.Helper()
	ahead := seen(v)
	if r := v.Do(c); want == api.OK || !same(r, api.Reply{Err: want, At: at}) {
		t.Errorf("%+v is %+v; want it refused by %d at %d", c, r, want, at)
	}
	if behind := seen(v); !same(ahead, behind) {
		t.Errorf("%+v was refused, and changed %+v to %+v", c, ahead, behind)
	}
}

// dump is all that can be asked of a venue.
type dump struct {
	Top        api.Top
	Now        int64
	Strategies []int
	Stands     []api.Standing
	Orders     []api.Order
	Usages     []api.Usage
}

// asked is what has these, a venue and its model.
type asked interface {
	Do(c api.Command) api.Reply
	Strategies() []int
	Stand(id int) (api.Standing, bool)
	Top() api.Top
	Now() int64
}

func seen(v asked) dump {
	d := dump{Top: v.Top(), Now: v.Now(), Strategies: v.Strategies(), Orders: v.Do(book()).Orders}
	for _, id := range d.Strategies {
		s, _ := v.Stand(id)
		d.Stands = append(d.Stands, s)
	}
	for client := 1; client <= api.MaxClients; client++ {
		d.Usages = append(d.Usages, v.Do(quota(client)).Usage)
	}
	return d
}

// same tells whether two things are one; a list that is nil is an empty one (R6).
func same(a, b any) bool {
	return reflect.DeepEqual(a, b) || fmt.Sprintf("%+v", a) == fmt.Sprintf("%+v", b)
}

// text is what is told, as a text.
func text(l []api.Told) string {
	var all []string
	for _, x := range l {
		all = append(all, toldText(x))
	}
	return strings.Join(all, ", ")
}

// toldText names what a thing told has; what it should not have shows (R7).
func toldText(x api.Told) string {
	switch x {
	case api.Told{Tell: api.TellEvent, Event: x.Event}:
		return eventText(x.Event)
	case api.Told{Tell: api.TellFired, Strategy: x.Strategy, Rule: x.Rule}:
		return fmt.Sprintf("fired %d %d", x.Strategy, x.Rule)
	case api.Told{Tell: api.TellRefused, Strategy: x.Strategy, Rule: x.Rule}:
		return fmt.Sprintf("refused %d %d", x.Strategy, x.Rule)
	case api.Told{Tell: api.TellReject, Strategy: x.Strategy, Action: x.Action, Code: x.Code}:
		return fmt.Sprintf("reject %d %d %d", x.Strategy, x.Action, int(x.Code))
	case api.Told{Tell: api.TellHalted, Strategy: x.Strategy}:
		return fmt.Sprintf("halted %d", x.Strategy)
	case api.Told{Tell: api.TellFaulted, Strategy: x.Strategy, Code: x.Code}:
		return fmt.Sprintf("faulted %d %d", x.Strategy, int(x.Code))
	case api.Told{Tell: api.TellCutoff}:
		return "cutoff"
	}
	return fmt.Sprintf("%+v", x)
}

func eventText(x api.Event) string {
	names := []string{
		api.Accepted: "accepted", api.Traded: "traded", api.Withdrawn: "withdrawn", api.Yielded: "yielded",
		api.Dropped: "dropped", api.Rested: "rested", api.Amended: "amended", api.Reduced: "reduced",
	}
	if x.What == api.Traded {
		return fmt.Sprintf("traded %d %d %d %d", x.ID, x.Other, x.Price, x.Qty)
	}
	return fmt.Sprintf("%s %d %d %d", names[x.What], x.ID, x.Price, x.Qty)
}

// expectStand tells whether a strategy stands so.
func expectStand(t *testing.T, v *venue.Venue, want api.Standing) {
	t.Helper()
	if s, is := v.Stand(want.ID); !is || !same(s, want) {
		t.Errorf("%d stands %+v, %t; want %+v", want.ID, s, is, want)
	}
	if r := done(t, v, status(want.ID)); !same(r, api.Reply{Top: v.Top(), Stand: want}) {
		t.Errorf("the status of %d is %+v; want %+v", want.ID, r, want)
	}
}

// stand is how a strategy of client 1 stands, with the registers and slots of one.
func stand(id int, how api.Status, n int64, o, u int, w api.Snap) api.Standing {
	return api.Standing{ID: id, Client: 1, Status: how, Regs: []int64{n}, Slots: []int{o, u}, Snap: w}
}

// expectUsage tells whether a client has used so much.
func expectUsage(t *testing.T, v *venue.Venue, client int, want api.Usage) {
	t.Helper()
	if r := done(t, v, quota(client)); !same(r, api.Reply{Top: v.Top(), Usage: want}) {
		t.Errorf("the quota of %d is %+v; want %+v", client, r, want)
	}
}

// expectOrders tells whether these rest: number, client, side, price and quantity of each.
func expectOrders(t *testing.T, v *venue.Venue, want ...api.Order) {
	t.Helper()
	if r := done(t, v, book()); !same(r, api.Reply{Top: v.Top(), Orders: want}) {
		t.Errorf("the book is %+v; want %+v", r, want)
	}
}

// expectStrategies tells whether there are just these.
func expectStrategies(t *testing.T, v *venue.Venue, want ...int) {
	t.Helper()
	if l := v.Strategies(); !slices.Equal(l, want) {
		t.Errorf("the strategies are %v; want %v", l, want)
	}
}

// nobody are numbers that no client has, where there are so many.
func nobody(clients int) []int {
	return []int{least, -clients, -1, 0, clients + 1, clients + 2, clients + 256, clients + 1<<32, greatest}
}

// lists hands each list of a thing, and may change it: of a copy.
func lists(v reflect.Value, see func(v reflect.Value)) {
	switch v.Kind() {
	case reflect.Struct:
		for i := range v.NumField() {
			lists(v.Field(i), see)
		}
	case reflect.Slice:
		see(v)
		for i := range v.Len() {
			lists(v.Index(i), see)
		}
	}
}

// draw answers numbers that look drawn, and are the same each time.
func draw(from uint64) func(below int) int {
	return func(below int) int {
		from += 0x9e3779b97f4a7c15
		z := from
		z = (z ^ z>>30) * 0xbf58476d1ce4e5b9
		z = (z ^ z>>27) * 0x94d049bb133111eb
		return int((z ^ z>>31) % uint64(below))
	}
}

// expectReached tells whether each of these came so often.
func expectReached[K comparable](t *testing.T, reached map[K]int, least int, all ...K) {
	t.Helper()
	for _, k := range all {
		if reached[k] < least {
			t.Errorf("%v was reached %d times", k, reached[k])
		}
	}
}
