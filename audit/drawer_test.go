package audit_test

import (
	"strconv"
	"strings"
	"testing"

	"tripwire/api"
	"tripwire/venue"
)

// drawer draws configs, strategies, and scripts of commands, in which what is right, what is just right and what is wrong all come.
type drawer struct {
	below func(n int) int
	c     api.Config
}

func drawn(from uint64) *drawer {
	d := &drawer{below: draw(from)}
	d.c = api.Config{
		Rules:  api.Rules{Clients: d.number(1, 2, 2, 3, 3, 8), Tick: int64(d.number(1, 1, 1, 2)), Lot: int64(d.number(1, 1, 1, 2)), Low: 2, High: 20, Most: 10},
		Orders: d.number(1, 4, 16, 40, 256), Levels: d.number(1, 3, 8, 128), Volume: int64(d.number(0, 20, 100, 1000, 100000)), IDs: d.number(0, 20, 100, 1000, 1000, 100000),
		Rounds: d.number(1, 2, 3, 3, 5, 16), Strats: d.number(0, 1, 2, 2, 3, 8), Open: d.number(0, 1, 2, 4, 8, 256), Acts: d.number(0, 1, 3, 10, 40, 200, 1000000), Window: int64(d.number(1, 5, 10, 30, lastTime)),
	}
	return d
}

// long is a drawer whose config leaves room for much to happen.
func long(from uint64) *drawer {
	d := drawn(from)
	d.c.Orders, d.c.Levels, d.c.Volume, d.c.IDs = d.number(12, 40), d.number(3, 16), int64(d.number(200, 1000000)), d.number(200, 1000000)
	d.c.Strats, d.c.Open, d.c.Acts = d.number(2, 3, 8), d.number(4, 8, 256), d.number(10, 40, 200, 1000000)
	return d
}

func (d *drawer) number(l ...int) int { return l[d.below(len(l))] }

func (d *drawer) pick(l ...string) string { return l[d.below(len(l))] }

// client is one that there is, mostly.
func (d *drawer) client() int {
	if d.below(25) == 0 {
		return d.number(nobody(d.c.Rules.Clients)...)
	}
	return 1 + d.below(d.c.Rules.Clients)
}

// price fits, mostly.
func (d *drawer) price() int64 {
	if d.below(25) == 0 {
		return []int64{least, -1, 0, 1, 3, 21, greatest}[d.below(7)]
	}
	return int64(2 + 2*d.below(10))
}

// qty fits, mostly.
func (d *drawer) qty() int64 {
	if d.below(25) == 0 {
		return []int64{least, -1, 0, 1, 3, 11, greatest}[d.below(7)]
	}
	return int64(2 + 2*d.below(5))
}

func (d *drawer) entry() api.Entry {
	e := api.Entry{
		Client: d.below(5) - 1,
		Kind:   []api.Kind{api.Limit, api.Limit, api.Limit, api.Limit, api.Market, api.Now, api.All, api.Post, api.Post}[d.below(9)],
		Side:   api.Side(1 + d.below(2)), Price: d.price(), Qty: d.qty(),
	}
	if d.below(40) == 0 {
		e.Side = api.Side(d.below(256))
	}
	if e.Kind == api.Market && d.below(10) > 0 {
		e.Price = 0
	}
	return e
}

// order is one that rests, mostly.
func (d *drawer) order(l []api.Order) api.Order {
	if len(l) == 0 || d.below(20) == 0 {
		return api.Order{ID: d.number(least, -1, 0, 1, 2, 3, 5, 9, 1000, greatest), Client: d.client(), Price: d.price(), Qty: d.qty()}
	}
	return l[d.below(len(l))]
}

// strategy is one that there is, mostly.
func (d *drawer) strategy(l []plan) plan {
	if len(l) == 0 || d.below(20) == 0 {
		return plan{id: d.number(least, -1, 0, 1, 2, 3, 1000, greatest), client: d.client()}
	}
	return l[d.below(len(l))]
}

// time goes on, mostly.
func (d *drawer) time(now int64) int64 {
	window := d.c.Window
	switch d.below(12) {
	case 0:
		return []int64{least, -1, now - 1, lastTime + 1, greatest}[d.below(5)]
	case 1:
		now = (now/window + 1) * window
	case 2:
		now = (now/window+1)*window - 1
	case 3:
		if d.below(20) == 0 {
			return lastTime
		}
	default:
		now += int64(d.below(4))
	}
	return min(now, lastTime)
}

// command is one of all, where these orders and strategies are, at a time; what its Op does not name is drawn, too: it must not tell.
func (d *drawer) command(orders []api.Order, plans []plan, now int64) api.Command {
	ops := []api.Op{
		api.OpEnter, api.OpEnter, api.OpEnter, api.OpEnter, api.OpEnter, api.OpEnter, api.OpEnter, api.OpEnter, api.OpEnter, api.OpEnter,
		api.OpAmend, api.OpAmend, api.OpAmend, api.OpCancel, api.OpCancel, api.OpTick, api.OpTick, api.OpTick,
		api.OpUpload, api.OpUpload, api.OpStart, api.OpStart, api.OpStart, api.OpStop, api.OpDrop, api.OpBook, api.OpStatus, api.OpStatus, api.OpQuota, api.OpQuota,
	}
	c := api.Command{Op: ops[d.below(len(ops))], Client: d.client(), Entry: d.entry(), ID: d.below(5), Price: d.price(), Qty: d.qty(), Source: "no source", Time: int64(d.below(50))}
	if d.below(60) == 0 {
		c.Op = api.Op(d.below(256))
	}
	own := d.below(8) > 0
	switch c.Op {
	case api.OpAmend, api.OpCancel:
		o := d.order(orders)
		c.ID = o.ID
		if own {
			c.Client = o.Client
		}
		if d.below(3) == 0 {
			c.Price, c.Qty = o.Price, o.Qty+2*int64(d.below(4))-4
		}
	case api.OpTick:
		c.Time = d.time(now)
	case api.OpUpload:
		c.Source = d.source()
	case api.OpStart, api.OpStop, api.OpDrop, api.OpStatus:
		p := d.strategy(plans)
		c.ID = p.id
		if own {
			c.Client = p.client
		}
	}
	return c
}

// script is drawn commands to a venue, and its replies.
func (d *drawer) script(t *testing.T, commands int) []step {
	t.Helper()
	var l []step
	d.play(t, commands, func(_ *venue.Venue, s step) { l = append(l, s) })
	return l
}

// play draws commands to a venue; each is seen with its reply, while the venue stands as it does behind it.
func (d *drawer) play(t *testing.T, commands int, see func(v *venue.Venue, s step)) {
	t.Helper()
	v, no := venue.New(d.c)
	if no != ok {
		t.Fatalf("New(%+v) is %d", d.c, no)
	}
	for range commands {
		var plans []plan
		for _, id := range v.Strategies() {
			s, _ := v.Stand(id)
			plans = append(plans, plan{id: id, client: s.Client})
		}
		c := d.command(v.Do(book()).Orders, plans, v.Now())
		see(v, step{c, v.Do(c)})
	}
}

// source is a strategy's text, mostly.
func (d *drawer) source() string {
	if d.below(25) == 0 {
		return d.pick("", "strategy", "strategy s { state a { when n do halt; } }", "strategy s { state a {} state a {} }", "strategy s { state a & }")
	}
	var all strings.Builder
	all.WriteString("strategy s { reg n int = " + d.pick("0", "0", "1", d.digits()) + "; reg p price = " + d.digits() + "p; reg b bool = true; slot o; slot u;")
	for _, state := range []string{"a", "c"} {
		all.WriteString(" state " + state + " {")
		for range d.below(4) {
			var dos []string
			for last := d.below(4); last >= 0; last-- {
				dos = append(dos, d.do(last == 0))
			}
			all.WriteString(" when " + d.guard() + " do " + strings.Join(dos, ", ") + ";")
		}
		all.WriteString(" }")
	}
	return all.String() + " }"
}

func (d *drawer) digits() string { return strconv.Itoa(d.below(14)) }

func (d *drawer) guard() string {
	n := d.digits()
	g := d.pick("has ask", "has bid", "has ask && ask < "+n+"p", "has bid && bid > "+n+"p", "has last && last != p", "open < "+n+"q", "open > "+n+"q",
		"volume % 4q == 0q", "n < "+n, "n % 3 == 0", "now > "+n+"t", "int(now) % 3 == 1", "b", "!b", "true", "false", d.pick("bid", "ask", "last")+" > "+n+"p", "10 / n > 2")
	switch d.below(5) {
	case 0:
		return g + " && n < 9"
	case 1:
		return "(" + g + ") && (" + d.pick("b", "has last", "open == 0q", "n % 2 == 0") + ")"
	case 2:
		return "n < 20 && (" + g + ")"
	}
	return g
}

// at is a price that a strategy asks for.
func (d *drawer) at() string {
	n := d.digits()
	return d.pick(n+"p", n+"p", "p", "has ask ? ask : "+n+"p", "has bid ? bid : "+n+"p", "has ask ? ask - 2p : "+n+"p", "has bid ? bid + 2p : 8p", "has last ? last : 10p", d.pick("bid", "ask", "last", "3p"))
}

func (d *drawer) do(last bool) string {
	lots := d.pick("2q", "4q", "2q", "qty(n)", "open", "5q", "max(open, 2q)")
	slot := d.pick("", " as o", " as o", " as u")
	switch k := d.below(20); {
	case last && k < 2:
		return "halt"
	case last && k < 5:
		return "goto " + d.pick("a", "c")
	case k < 6:
		return "cancel " + d.pick("o", "o", "u")
	case k < 8:
		return "amend " + d.pick("o", "o", "u") + " to " + lots + " at " + d.at()
	case k == 8:
		return "submit " + d.pick("buy", "sell") + " of " + lots + " market" + slot
	case k < 14:
		return d.pick("set n = n + 1", "set n = n + 1", "set n = n + 1", "set b = !b", "set p = "+d.at(), "set n = n * 3", "set n = n - 7")
	}
	return "submit " + d.pick("buy", "sell") + " of " + lots + " at " + d.at() + d.pick(" limit", " limit", " ioc", " fok", " post") + slot
}
