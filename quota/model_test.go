package quota_test

import (
	"fmt"
	"testing"

	"tripwire/api"
	"tripwire/quota"
)

// meter is what can be asked of a meter and of its model.
type meter interface {
	Tick(now int64) api.Errno
	Acts(client, n int) api.Errno
	Plan(client int) api.Errno
	Drop(client int) api.Errno
	Used(client int) (int, int)
	Window() int64
}

// taken is what a call took, and when.
type taken struct {
	time   int64
	client int
	use
}

// model is a meter by the chapter's words alone: all that was ever taken, of which everything is counted anew.
type model struct {
	c   api.Config
	now int64
	all []taken
}

func (m *model) is(client int) bool { return 0 < client && client < m.c.Rules.Clients+1 }

func (m *model) take(client int, u use) api.Errno {
	m.all = append(m.all, taken{m.now, client, u})
	return api.OK
}

func (m *model) Tick(now int64) api.Errno {
	if now < m.now || now > 1000000000000000 {
		return noTime
	}
	m.now = now
	return api.OK
}

func (m *model) Acts(client, n int) api.Errno {
	if !m.is(client) || n < 0 {
		return wrong
	}
	// Without a sign the sum of two numbers that have one is within bounds.
	if _, acts := m.Used(client); uint64(acts)+uint64(n) > uint64(m.c.Acts) {
		return noActs
	}
	return m.take(client, use{acts: n})
}

func (m *model) Plan(client int) api.Errno {
	if !m.is(client) {
		return wrong
	}
	if strats, _ := m.Used(client); strats == m.c.Strats {
		return noPlan
	}
	return m.take(client, use{strats: 1})
}

func (m *model) Drop(client int) api.Errno {
	if !m.is(client) {
		return wrong
	}
	if strats, _ := m.Used(client); strats == 0 {
		return noPlan
	}
	return m.take(client, use{strats: -1})
}

func (m *model) Used(client int) (int, int) {
	var u use
	for _, x := range m.all {
		if x.client != client {
			continue
		}
		u.strats += x.strats
		if x.time/m.c.Window == m.Window() {
			u.acts += x.acts
		}
	}
	return u.strats, u.acts
}

func (m *model) Window() int64 { return m.now / m.c.Window }

// call is one of a script; of a tick n is the time.
type call struct {
	what   string
	client int
	n      int
}

func tick(now int) call       { return call{"tick", 0, now} }
func acts(client, n int) call { return call{"acts", client, n} }
func plan(client int) call    { return call{"plan", client, 0} }
func drop(client int) call    { return call{"drop", client, 0} }

func (c call) do(m meter) api.Errno {
	switch c.what {
	case "tick":
		return m.Tick(int64(c.n))
	case "acts":
		return m.Acts(c.client, c.n)
	case "plan":
		return m.Plan(c.client)
	}
	return m.Drop(c.client)
}

// answer is what a call says, and all that can be told of the meter behind it.
type answer struct {
	e      api.Errno
	window int64
	used   [mostClients + 2]use
}

// answers is what a script says, call by call.
func answers(m meter, script []call) []answer {
	var all []answer
	for _, c := range script {
		all = append(all, answered(m, c))
	}
	return all
}

func answered(m meter, c call) answer {
	a := answer{e: c.do(m), window: m.Window()}
	for client := range a.used {
		a.used[client].strats, a.used[client].acts = m.Used(client)
	}
	return a
}

// expectScript holds a meter against the model, behind each call of a script.
func expectScript(t *testing.T, c api.Config, script []call) {
	t.Helper()
	m, want := made(t, c), &model{c: c}
	for i, x := range script {
		if is, want := answered(m, x), answered(want, x); is != want {
			t.Fatalf("of %s\n%v is %v; want %v", told(c), script[:i+1], is, want)
		}
	}
}

// told is what of a config is looked at.
func told(c api.Config) string {
	return fmt.Sprintf("clients %d, strats %d, acts %d, window %d", c.Rules.Clients, c.Strats, c.Acts, c.Window)
}

// Every script of four calls out of so many, with few that are right, few that are wrong, and few to use.
func TestAllShortScripts(t *testing.T) {
	calls := []call{
		tick(0), tick(1), tick(2), tick(5), tick(-1),
		acts(1, 0), acts(1, 1), acts(1, 2), acts(2, 1), acts(3, 1), acts(1, -1), acts(1, greatest),
		plan(1), plan(2), plan(3), drop(1), drop(2), drop(0),
	}
	for _, c := range []api.Config{config(2, 1, 2, 2), config(2, 2, 1, 1), config(1, 1, 3, 3), config(3, 0, 0, 5)} {
		for _, one := range calls {
			for _, two := range calls {
				for _, three := range calls {
					for _, four := range calls {
						expectScript(t, c, []call{one, two, three, four})
					}
				}
			}
		}
	}
}

// drawer draws configs, and scripts for them in which what is right, what is just right, and what is wrong all come.
type drawer struct {
	below func(n int) int
	c     api.Config
	now   int
}

func drawn(from uint64) *drawer {
	d := &drawer{below: draw(from)}
	pick := func(all ...int) int { return all[d.below(len(all))] }
	d.c = config(pick(1, 2, 3, 7, 8), pick(0, 1, 2, 5, 8), pick(0, 1, 2, 9, 40, mostActs), int64(pick(1, 2, 3, 10, 100, lastTime/3, lastTime)))
	return d
}

func (d *drawer) client() int {
	if d.below(12) == 0 {
		all := nobody(d.c.Rules.Clients)
		return all[d.below(len(all))]
	}
	return 1 + d.below(d.c.Rules.Clients)
}

func (d *drawer) number() int {
	switch d.below(16) {
	case 0:
		return []int{least, least + 1, -1, greatest - 1, greatest, 1 << 62}[d.below(6)]
	case 1:
		return d.c.Acts + d.below(2)
	}
	return d.below(d.c.Acts/3 + 2)
}

// time is one that may be told next, mostly.
func (d *drawer) time() int {
	window := int(d.c.Window)
	switch d.below(16) {
	case 0:
		return []int{earliest, -1, 0, d.now - 1, lastTime + 1, latest}[d.below(6)]
	case 1, 2, 3:
		d.now = (d.now/window + 1) * window
	case 4, 5:
		d.now += d.below(3) * window
	case 6:
		d.now += d.below(5*window + 1)
	case 7:
		d.now = (d.now/window+1)*window - 1
	case 8, 9:
		d.now++
	default:
		d.now += d.below(window/5 + 1)
	}
	d.now = min(d.now, lastTime)
	return d.now
}

func (d *drawer) call() call {
	switch d.below(10) {
	case 0, 1:
		return tick(d.time())
	case 2, 3, 4:
		return plan(d.client())
	case 5, 6:
		return drop(d.client())
	}
	return acts(d.client(), d.number())
}

func (d *drawer) script(calls int) []call {
	var all []call
	for range calls {
		all = append(all, d.call())
	}
	return all
}

func TestDrawnScripts(t *testing.T) {
	for seed := range uint64(1500) {
		d := drawn(seed)
		expectScript(t, d.c, d.script(60))
	}
	for seed := range uint64(20) {
		d := drawn(seed + 100000)
		expectScript(t, d.c, d.script(1500))
	}
}

// What is drawn comes to all that can be said, of each call.
func TestWhatIsDrawn(t *testing.T) {
	type said struct {
		what string
		e    api.Errno
	}
	reached := map[said]int{}
	windows := 0
	for seed := range uint64(300) {
		d := drawn(seed)
		m, _ := quota.New(d.c)
		for range 60 {
			c, was := d.call(), m.Window()
			reached[said{c.what, c.do(m)}]++
			if m.Window() != was {
				windows++
			}
		}
	}
	for _, s := range []said{{"tick", ok}, {"tick", noTime}, {"acts", ok}, {"acts", wrong}, {"acts", noActs}, {"plan", ok}, {"plan", wrong}, {"plan", noPlan}, {"drop", ok}, {"drop", wrong}, {"drop", noPlan}} {
		if reached[s] < 100 {
			t.Errorf("%v comes only %d times", s, reached[s])
		}
	}
	if len(reached) != 11 || windows < 300 {
		t.Errorf("%v, %d new windows", reached, windows)
	}
}
