package quota_test

import "testing"

// Just as many as are left, and one more; at once, and behind others.
func TestActsUpToTheLast(t *testing.T) {
	for _, most := range []int{0, 1, 2, 3, 10, mostActs - 1, mostActs} {
		for _, had := range []int{0, 1, 2, 5, most - 1, most} {
			if had < 0 || had > most {
				continue
			}
			m := made(t, config(2, 1, most, 10))
			expectActs(t, m, 1, had, ok)
			left := most - had
			for _, n := range []int{left + 1, left + 2, most + 1, most + 2, 2*most + 1, mostActs + 1, 1 << 31, 1 << 32, 1 << 62, greatest - most, greatest - had, greatest - 1, greatest} {
				expectActs(t, m, 1, n, noActs)
				expectAll(t, m, 0, use{0, had}, use{})
			}
			expectActs(t, m, 1, 0, ok)
			expectActs(t, m, 1, left, ok)
			expectAll(t, m, 0, use{0, most}, use{})
			expectActs(t, m, 1, 0, ok)
			expectActs(t, m, 1, 1, noActs)
			expectActs(t, m, 1, greatest, noActs)
			expectAll(t, m, 0, use{0, most}, use{})
		}
	}
}

func TestActsOneByOne(t *testing.T) {
	m := made(t, config(2, 0, 1000, 10))
	for had := range 1000 {
		expectActs(t, m, 2, 1, ok)
		expectAll(t, m, 0, use{}, use{0, had + 1})
	}
	expectActs(t, m, 2, 1, noActs)
	expectActs(t, m, 1, 1, ok)
}

// None of those that are refused is taken: fewer may be asked for behind them.
func TestAllActsOrNone(t *testing.T) {
	m := made(t, config(1, 0, 10, 10))
	expectActs(t, m, 1, 7, ok)
	expectActs(t, m, 1, 5, noActs)
	expectActs(t, m, 1, 4, noActs)
	expectActs(t, m, 1, 2, ok)
	expectActs(t, m, 1, 2, noActs)
	expectActs(t, m, 1, 1, ok)
	expectActs(t, m, 1, 1, noActs)
	expectAll(t, m, 0, use{0, 10})
}

func TestWithoutActs(t *testing.T) {
	m := made(t, config(1, 1, 0, 10))
	expectActs(t, m, 1, 0, ok)
	expectActs(t, m, 1, 1, noActs)
	expectActs(t, m, 1, greatest, noActs)
	expectActs(t, m, 1, -1, wrong)
	expectTick(t, m, 10, ok)
	expectActs(t, m, 1, 1, noActs)
	expectAll(t, m, 1, use{})
}

// A number below nought is wrong, whatever is left, and gives nothing back.
func TestActsBelowNought(t *testing.T) {
	for _, had := range []int{0, 1, 2, 3} {
		m := made(t, example())
		expectActs(t, m, 1, had, ok)
		for _, n := range []int{-1, -2, -3, -4, -mostActs, least + 3, least + 1, least} {
			expectActs(t, m, 1, n, wrong)
			expectAll(t, m, 0, use{0, had}, use{})
		}
		expectActs(t, m, 1, 4-had, noActs)
		expectActs(t, m, 1, 3-had, ok)
	}
}

// Who is no client gets ErrArg, ahead of what would be too much, and takes nothing.
func TestActsOfNobody(t *testing.T) {
	for clients := 1; clients <= mostClients; clients++ {
		m := made(t, config(clients, 1, 3, 10))
		want := make([]use, clients)
		for client := 1; client <= clients; client++ {
			expectActs(t, m, client, 2, ok)
			want[client-1].acts = 2
		}
		for _, client := range nobody(clients) {
			for _, n := range []int{0, 1, 3, 4, greatest, -1, least} {
				expectActs(t, m, client, n, wrong)
			}
			expectAll(t, m, 0, want...)
		}
		expectActs(t, m, clients, 2, noActs)
		expectActs(t, m, clients, 1, ok)
	}
}

// In a new window all may be had again, whatever was had or refused in the last one.
func TestActsOfANewWindow(t *testing.T) {
	m := made(t, example())
	for window := range int64(5) {
		expectTick(t, m, 10*window, ok)
		expectActs(t, m, 1, 4, noActs)
		expectActs(t, m, 1, 3, ok)
		expectActs(t, m, 1, 1, noActs)
		expectTick(t, m, 10*window+9, ok)
		expectActs(t, m, 1, 1, noActs)
		expectActs(t, m, 2, 1, ok)
		expectAll(t, m, window, use{0, 3}, use{0, 1})
	}
}

// Strategies and actions are counted apart.
func TestActsTakeNoStrategies(t *testing.T) {
	m := made(t, config(1, 2, 3, 10))
	expectPlan(t, m, 1, ok)
	expectActs(t, m, 1, 3, ok)
	expectAll(t, m, 0, use{1, 3})
	expectPlan(t, m, 1, ok)
	expectAll(t, m, 0, use{2, 3})
	expectDrop(t, m, 1, ok)
	expectDrop(t, m, 1, ok)
	expectAll(t, m, 0, use{0, 3})
	expectActs(t, m, 1, 1, noActs)
}
