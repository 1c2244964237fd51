package quota_test

import (
	"math"
	"testing"

	"tripwire/api"
	"tripwire/quota"
)

const (
	ok     = api.OK
	wrong  = api.ErrArg
	noActs = api.ErrQuotaActs
	noPlan = api.ErrQuotaPlan
	noTime = api.ErrQuotaTime

	least, greatest     = math.MinInt, math.MaxInt
	earliest, latest    = math.MinInt64, math.MaxInt64
	lastTime            = 1000000000000000
	mostActs            = 1000000
	mostClients, mostOf = 8, 8
)

// config is one in which all that is not looked at is nought.
func config(clients, strats, acts int, window int64) api.Config {
	return api.Config{Rules: api.Rules{Clients: clients}, Strats: strats, Acts: acts, Window: window}
}

// example is the chapter's.
func example() api.Config { return config(2, 1, 3, 10) }

// made is a meter of a config that may be.
func made(t *testing.T, c api.Config) *quota.Meter {
	t.Helper()
	m, e := quota.New(c)
	if m == nil || e != ok {
		t.Fatalf("New(%+v) is %v, %d", c, m, e)
	}
	return m
}

func expectTick(t *testing.T, m *quota.Meter, now int64, want api.Errno) {
	t.Helper()
	if e := m.Tick(now); e != want {
		t.Errorf("Tick(%d) is %d; want %d", now, e, want)
	}
}

func expectActs(t *testing.T, m *quota.Meter, client, n int, want api.Errno) {
	t.Helper()
	if e := m.Acts(client, n); e != want {
		t.Errorf("Acts(%d, %d) is %d; want %d", client, n, e, want)
	}
}

func expectPlan(t *testing.T, m *quota.Meter, client int, want api.Errno) {
	t.Helper()
	if e := m.Plan(client); e != want {
		t.Errorf("Plan(%d) is %d; want %d", client, e, want)
	}
}

func expectDrop(t *testing.T, m *quota.Meter, client int, want api.Errno) {
	t.Helper()
	if e := m.Drop(client); e != want {
		t.Errorf("Drop(%d) is %d; want %d", client, e, want)
	}
}

func expectUsed(t *testing.T, m *quota.Meter, client, wantStrats, wantActs int) {
	t.Helper()
	if strats, acts := m.Used(client); strats != wantStrats || acts != wantActs {
		t.Errorf("Used(%d) is %d, %d; want %d, %d", client, strats, acts, wantStrats, wantActs)
	}
}

func expectWindow(t *testing.T, m *quota.Meter, want int64) {
	t.Helper()
	if is := m.Window(); is != want {
		t.Errorf("Window is %d; want %d", is, want)
	}
}

// use is what a client has used.
type use struct{ strats, acts int }

// expectAll holds a meter against its window and what each of its clients has used; nobody else has used anything.
func expectAll(t *testing.T, m *quota.Meter, window int64, all ...use) {
	t.Helper()
	expectWindow(t, m, window)
	for i, u := range all {
		expectUsed(t, m, i+1, u.strats, u.acts)
	}
	for _, client := range nobody(len(all)) {
		expectUsed(t, m, client, 0, 0)
	}
}

// nobody are numbers that no client has, where there are so many.
func nobody(clients int) []int {
	all := []int{least, least + 1, -clients, -1, 0, greatest - 1, greatest}
	for client := clients + 1; client <= mostClients+2; client++ {
		all = append(all, client)
	}
	return all
}

// draw answers numbers that look drawn, and are the same each time.
func draw(from uint64) func(below int) int {
	return func(below int) int {
		from += 0x9e3779b97f4a7c15
		z := from
		z = (z ^ z>>30) * 0xbf58476d1ce4e5b9
		z = (z ^ z>>27) * 0x94d049bb133111eb
		return int((z ^ z>>31) % uint64(below))
	}
}
