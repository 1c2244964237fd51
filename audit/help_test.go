package audit_test

import (
	"fmt"
	"math"
	"reflect"
	"slices"
	"testing"

	"tripwire/api"
	"tripwire/audit"
	"tripwire/venue"
)

const (
	ok       = api.OK
	badReply = api.ErrAuditReply
	badEvent = api.ErrAuditEvent
	badTold  = api.ErrAuditTold
	badQuota = api.ErrAuditQuota
	badTop   = api.ErrAuditTop
	badDump  = api.ErrAuditDump

	least, greatest = math.MinInt64, math.MaxInt64
	lastTime        = 1000000000000000
	most            = 1000000000 // the greatest price, and the greatest quantity
)

// plain is a config with room for much.
func plain() api.Config {
	return api.Config{
		Rules:  api.Rules{Clients: 3, Tick: 1, Lot: 1, Low: 1, High: 100, Most: 100},
		Orders: 16, Levels: 8, Volume: 1000, IDs: 1000,
		Rounds: 3, Strats: 4, Open: 8, Acts: 100, Window: 10,
	}
}

// with is plain with something else in it.
func with(turn func(c *api.Config)) api.Config {
	c := plain()
	turn(&c)
	return c
}

// made is a judge of a config that may be.
func made(t *testing.T, c api.Config) *audit.Judge {
	t.Helper()
	j, no := audit.New(c)
	if j == nil || no != ok {
		t.Fatalf("New(%+v) is %v, %d", c, j, no)
	}
	return j
}

// Commands, by their Ops.

func enter(client int, kind api.Kind, side api.Side, price, qty int64) api.Command {
	return api.Command{Op: api.OpEnter, Client: client, Entry: api.Entry{Kind: kind, Side: side, Price: price, Qty: qty}}
}

func buy(client int, price, qty int64) api.Command {
	return enter(client, api.Limit, api.Buy, price, qty)
}

func sell(client int, price, qty int64) api.Command {
	return enter(client, api.Limit, api.Sell, price, qty)
}

func amend(client, id int, price, qty int64) api.Command {
	return api.Command{Op: api.OpAmend, Client: client, ID: id, Price: price, Qty: qty}
}

func cancel(client, id int) api.Command {
	return api.Command{Op: api.OpCancel, Client: client, ID: id}
}

func tick(time int64) api.Command { return api.Command{Op: api.OpTick, Time: time} }

func upload(client int, source string) api.Command {
	return api.Command{Op: api.OpUpload, Client: client, Source: source}
}

func start(client, id int) api.Command { return api.Command{Op: api.OpStart, Client: client, ID: id} }

func stop(client, id int) api.Command { return api.Command{Op: api.OpStop, Client: client, ID: id} }

func drop(client, id int) api.Command { return api.Command{Op: api.OpDrop, Client: client, ID: id} }

func status(id int) api.Command { return api.Command{Op: api.OpStatus, ID: id} }

func quota(client int) api.Command { return api.Command{Op: api.OpQuota, Client: client} }

func book() api.Command { return api.Command{Op: api.OpBook} }

// Events, by their Whats.

func accepted(id, client int, side api.Side, price, qty int64) api.Event {
	return api.Event{What: api.Accepted, ID: id, Client: client, Side: side, Price: price, Qty: qty}
}

func rested(id, client int, side api.Side, price, qty int64) api.Event {
	return api.Event{What: api.Rested, ID: id, Client: client, Side: side, Price: price, Qty: qty}
}

func dropped(id, client int, side api.Side, price, qty int64) api.Event {
	return api.Event{What: api.Dropped, ID: id, Client: client, Side: side, Price: price, Qty: qty}
}

func withdrawn(id, client int, side api.Side, price, qty int64) api.Event {
	return api.Event{What: api.Withdrawn, ID: id, Client: client, Side: side, Price: price, Qty: qty}
}

func amended(id, client int, side api.Side, price, qty, was int64) api.Event {
	return api.Event{What: api.Amended, ID: id, Client: client, Side: side, Price: price, Qty: qty, Was: was}
}

func reduced(id, client int, side api.Side, price, qty, was int64) api.Event {
	return api.Event{What: api.Reduced, ID: id, Client: client, Side: side, Price: price, Qty: qty, Was: was}
}

func traded(id, other, client, holder int, side api.Side, price, qty int64) api.Event {
	return api.Event{What: api.Traded, ID: id, Other: other, Client: client, Holder: holder, Side: side, Price: price, Qty: qty}
}

func yielded(id, other, client int, side api.Side, price, qty int64) api.Event {
	return api.Event{What: api.Yielded, ID: id, Other: other, Client: client, Side: side, Price: price, Qty: qty}
}

// Things told, by their Tells.

func happened(e api.Event) api.Told { return api.Told{Tell: api.TellEvent, Event: e} }

func fired(strategy int) api.Told { return api.Told{Tell: api.TellFired, Strategy: strategy} }

func refused(strategy int) api.Told { return api.Told{Tell: api.TellRefused, Strategy: strategy} }

func reject(strategy int) api.Told {
	return api.Told{Tell: api.TellReject, Strategy: strategy, Code: api.ErrEngineOrder}
}

func halted(strategy int) api.Told { return api.Told{Tell: api.TellHalted, Strategy: strategy} }

func faulted(strategy int) api.Told {
	return api.Told{Tell: api.TellFaulted, Strategy: strategy, Code: api.ErrZero}
}

func cutoff() api.Told { return api.Told{Tell: api.TellCutoff} }

// told is things one behind the other: events stand for what tells them.
func told(all ...any) []api.Told {
	var l []api.Told
	for _, x := range all {
		switch x := x.(type) {
		case api.Event:
			l = append(l, happened(x))
		case api.Told:
			l = append(l, x)
		}
	}
	return l
}

// step is a command and a reply to it.
type step struct {
	c api.Command
	r api.Reply
}

// rests is an entry of which all rests, and what is the top behind it.
func rests(id, client int, side api.Side, price, qty int64, top api.Top) step {
	return step{
		enter(client, api.Limit, side, price, qty),
		api.Reply{ID: id, Told: told(accepted(id, client, side, price, qty), rested(id, client, side, price, qty)), Top: top},
	}
}

// turned is a step in memory of its own, with something else in it.
func (s step) turned(turn func(s *step)) step {
	s.r = copied(s.r)
	turn(&s)
	return s
}

// copied is the same reply in memory of its own.
func copied(r api.Reply) api.Reply {
	r.Told, r.Orders = slices.Clone(r.Told), slices.Clone(r.Orders)
	r.Stand.Regs, r.Stand.Slots = slices.Clone(r.Stand.Regs), slices.Clone(r.Stand.Slots)
	return r
}

// expectSeen tells whether a judge finds nothing wrong with steps, one behind the other.
func expectSeen(t *testing.T, j *audit.Judge, all ...step) {
	t.Helper()
	for _, s := range all {
		if e, at := j.Sees(s.c, s.r); e != ok || at != 0 {
			t.Fatalf("%+v\n%+v: %d at %d", s.c, s.r, e, at)
		}
	}
}

// expectWrong tells whether this is what a judge finds wrong with a step, and stays as it was, whatever it sees then.
func expectWrong(t *testing.T, j *audit.Judge, s step, want api.Errno, place int) {
	t.Helper()
	ahead := seen(j)
	for k, x := range []step{s, s, {book(), api.Reply{Top: ahead.Top, Orders: ahead.Orders}}, {book(), api.Reply{Err: 1}}, {}, {r: api.Reply{ID: 1, Told: told(cutoff())}}} {
		if e, at := j.Sees(x.c, x.r); e != want || at != place || want == ok {
			t.Errorf("%+v\n%+v: %d at %d; want %d at %d (step %d behind it)", s.c, s.r, e, at, want, place, k)
			return
		}
		if behind := seen(j); !same(ahead, behind) {
			t.Errorf("%+v\n%+v is wrong, and changed %+v to %+v", s.c, s.r, ahead, behind)
		}
	}
}

// dump is all that can be asked of a judge.
type dump struct {
	Orders []api.Order
	Top    api.Top
	Usages []api.Usage
}

func seen(j *audit.Judge) dump {
	d := dump{Orders: j.Orders(), Top: j.Top()}
	for client := -1; client <= api.MaxClients+1; client++ {
		d.Usages = append(d.Usages, j.Usage(client))
	}
	return d
}

// same tells whether two things are one; a list that is nil is an empty one (R6).
func same(a, b any) bool {
	return reflect.DeepEqual(a, b) || fmt.Sprintf("%+v", a) == fmt.Sprintf("%+v", b)
}

// expectOrders tells whether a judge has just these.
func expectOrders(t *testing.T, j *audit.Judge, want ...api.Order) {
	t.Helper()
	if l := j.Orders(); !slices.Equal(l, want) {
		t.Errorf("the orders are %+v; want %+v", l, want)
	}
}

func expectTop(t *testing.T, j *audit.Judge, want api.Top) {
	t.Helper()
	if top := j.Top(); top != want {
		t.Errorf("the top is %+v; want %+v", top, want)
	}
}

func expectUsage(t *testing.T, j *audit.Judge, client int, want api.Usage) {
	t.Helper()
	if u := j.Usage(client); u != want {
		t.Errorf("client %d has used %+v; want %+v", client, u, want)
	}
}

func order(id, client int, side api.Side, price, qty int64) api.Order {
	return api.Order{ID: id, Client: client, Side: side, Price: price, Qty: qty}
}

// scene is a market in which each of three clients has orders, and strategies that run and that do not: true steps to it, and what it is.
//
// Sell: 1 (client 1) 10 5, 2 (client 2) 10 4, 3 (client 1) 11 3. Buy: 4 (client 3) 8 2, 6 (client 1) 8 1, 5 (client 3) 7 6.
// Strategies: 1 (client 1) and 4 (client 3) run; 2 (client 2) and 3 (client 1) do not; 5 is no more.
func scene() []step {
	return []step{
		rests(1, 1, api.Sell, 10, 5, api.Top{Ask: 10}),
		rests(2, 2, api.Sell, 10, 4, api.Top{Ask: 10}),
		rests(3, 1, api.Sell, 11, 3, api.Top{Ask: 10}),
		rests(4, 3, api.Buy, 8, 2, sceneTop()),
		rests(5, 3, api.Buy, 7, 6, sceneTop()),
		rests(6, 1, api.Buy, 8, 1, sceneTop()),
		{tick(1), api.Reply{Top: sceneTop()}},
		{upload(1, "s"), api.Reply{ID: 1, Top: sceneTop()}},
		{upload(2, "s"), api.Reply{ID: 2, Top: sceneTop()}},
		{upload(1, "s"), api.Reply{ID: 3, Top: sceneTop()}},
		{upload(3, "s"), api.Reply{ID: 4, Top: sceneTop()}},
		{upload(3, "s"), api.Reply{ID: 5, Top: sceneTop()}},
		{start(1, 1), api.Reply{Rounds: 1, Top: sceneTop()}},
		{start(3, 4), api.Reply{Rounds: 1, Top: sceneTop()}},
		{drop(3, 5), api.Reply{Top: sceneTop()}},
	}
}

func sceneTop() api.Top { return api.Top{Bid: 8, Ask: 10} }

// sceneOrders are what rests in the scene.
func sceneOrders() []api.Order {
	return []api.Order{
		order(4, 3, api.Buy, 8, 2), order(6, 1, api.Buy, 8, 1), order(5, 3, api.Buy, 7, 6),
		order(1, 1, api.Sell, 10, 5), order(2, 2, api.Sell, 10, 4), order(3, 1, api.Sell, 11, 3),
	}
}

// staged is a judge who has seen the scene.
func staged(t *testing.T) *audit.Judge {
	t.Helper()
	return stagedBy(t, plain())
}

func stagedBy(t *testing.T, c api.Config) *audit.Judge {
	t.Helper()
	j := made(t, c)
	expectSeen(t, j, scene()...)
	return j
}

// ticked is a reply to a tick in the scene: what strategies set going, and the top behind it.
func ticked(top api.Top, all ...any) step {
	return step{tick(2), api.Reply{Told: told(all...), Rounds: 1, Top: top}}
}

func TestTheSceneIsTrue(t *testing.T) {
	j := staged(t)
	expectOrders(t, j, sceneOrders()...)
	expectTop(t, j, sceneTop())
	expectUsage(t, j, 1, api.Usage{Strats: 2, Orders: 3, Lots: 9, Acts: 3})
	expectUsage(t, j, 2, api.Usage{Strats: 1, Orders: 1, Lots: 4, Acts: 1})
	expectUsage(t, j, 3, api.Usage{Strats: 1, Orders: 2, Lots: 8, Acts: 2})
	expectSeen(t, j, ticked(sceneTop()))
}

// steps are what a venue replies to commands.
func steps(t *testing.T, c api.Config, all ...api.Command) []step {
	t.Helper()
	v, no := venue.New(c)
	if no != ok {
		t.Fatalf("New(%+v) is %d", c, no)
	}
	var l []step
	for _, x := range all {
		l = append(l, step{x, v.Do(x)})
	}
	return l
}

// nobody are numbers that no client has, where there are so many.
func nobody(clients int) []int {
	return []int{least, -clients, -1, 0, clients + 1, clients + 2, clients + 256, clients + 1<<32, greatest}
}

// draw answers numbers that look drawn, and are the same each time.
func draw(from uint64) func(below int) int {
	return func(below int) int {
		from += 0x9e3779b97f4a7c15
		z := from
		z = (z ^ z>>30) * 0xbf58476d1ce4e5b9
		z = (z ^ z>>27) * 0x94d049bb133111eb
		return int((z ^ z>>31) % uint64(below))
	}
}

// expectReached tells whether each of these came so often.
func expectReached[K comparable](t *testing.T, reached map[K]int, least int, all ...K) {
	t.Helper()
	for _, k := range all {
		if reached[k] < least {
			t.Errorf("%v was reached %d times", k, reached[k])
		}
	}
}
