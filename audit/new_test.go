package audit_test

import (
	"testing"

	"tripwire/api"
	"tripwire/audit"
)

func config(clients int, window int64) api.Config {
	return api.Config{Rules: api.Rules{Clients: clients}, Window: window}
}

func TestNew(t *testing.T) {
	for _, clients := range []int{1, 2, 7, 8} {
		for _, window := range []int64{1, 2, lastTime - 1, lastTime} {
			j := made(t, config(clients, window))
			expectNothing(t, j)
		}
	}
	clients := []int{least, -8, -1, 0, 9, 10, 257, 1<<32 + 1, greatest}
	windows := []int64{least, -lastTime, -1, 0, lastTime + 1, greatest}
	for _, n := range clients {
		for _, window := range append(windows, 1, 10, lastTime) {
			expectNone(t, config(n, window))
		}
	}
	for _, window := range windows {
		for _, n := range append(clients, 1, 2, 8) {
			expectNone(t, config(n, window))
		}
	}
}

// expectNone tells whether there is no judge of a config.
func expectNone(t *testing.T, c api.Config) {
	t.Helper()
	if j, no := audit.New(c); j != nil || no != api.ErrArg {
		t.Errorf("New(%+v) is %v, %d", c, j, no)
	}
}

// expectNothing tells whether a judge has seen nothing.
func expectNothing(t *testing.T, j *audit.Judge) {
	t.Helper()
	if d := seen(j); !same(d, dump{Usages: make([]api.Usage, api.MaxClients+3)}) {
		t.Errorf("it has %+v", d)
	}
}

// Nothing else of a config is looked at.
func TestNewLooksAtNothingElse(t *testing.T) {
	for _, n := range []int{least, -1, 0, 1, 257, greatest} {
		c := config(2, 10)
		c.Rules.Tick, c.Rules.Lot, c.Rules.Low, c.Rules.High, c.Rules.Most = int64(n), int64(n), int64(n), int64(n), int64(n)
		c.Orders, c.Levels, c.Volume, c.IDs, c.Rounds, c.Strats, c.Open, c.Acts = n, n, int64(n), n, n, n, n, n
		expectNothing(t, made(t, c))
	}
}

// A judge begins at the time 0, in the window 0, with the book empty and no number given.
func TestABeginning(t *testing.T) {
	expectSeen(t, made(t, plain()), step{tick(0), api.Reply{}}, step{book(), api.Reply{}}, step{quota(3), api.Reply{}})
	expectWrong(t, made(t, plain()), step{tick(-1), api.Reply{}}, badReply, 0)
	expectWrong(t, made(t, plain()), step{status(0), api.Reply{}}, badReply, 0)
	expectWrong(t, made(t, plain()), rests(0, 1, api.Sell, 10, 5, api.Top{Ask: 10}), badEvent, 0)
	expectSeen(t, made(t, plain()), rests(1, 1, api.Sell, 10, 5, api.Top{Ask: 10}))
}
