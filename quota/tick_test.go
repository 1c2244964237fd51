package quota_test

import (
	"testing"

	"tripwire/quota"
)

// expectTime tells a meter's time by what Tick says: it may be asked for once more, but not for less.
func expectTime(t *testing.T, m *quota.Meter, time int64) {
	t.Helper()
	expectTick(t, m, time-1, noTime)
	expectTick(t, m, time, ok)
}

// busy is a meter of the example's whose clients have used something.
func busy(t *testing.T) *quota.Meter {
	t.Helper()
	m := made(t, example())
	expectActs(t, m, 1, 2, ok)
	expectActs(t, m, 2, 3, ok)
	expectPlan(t, m, 2, ok)
	return m
}

func TestTimeAtFirst(t *testing.T) {
	m := made(t, example())
	for _, now := range []int64{-1, -10, -lastTime, earliest, lastTime + 1, latest} {
		expectTick(t, m, now, noTime)
	}
	expectTime(t, m, 0)
	expectAll(t, m, 0, use{}, use{})
}

// To the same time, one below, one above.
func TestTimeGoesOn(t *testing.T) {
	m := busy(t)
	for _, now := range []int64{0, 1, 2, 5, 8, 9} {
		expectTick(t, m, now, ok)
		expectTime(t, m, now)
		expectTick(t, m, now, ok)
		expectAll(t, m, 0, use{0, 2}, use{1, 3})
	}
	for _, now := range []int64{10, 11, 19} {
		expectTick(t, m, now, ok)
		expectTime(t, m, now)
		expectAll(t, m, 1, use{}, use{1, 0})
	}
}

func TestTheLastTime(t *testing.T) {
	for _, window := range []int64{1, 2, 3, 7, 10, lastTime - 1, lastTime} {
		m := made(t, config(2, 1, 3, window))
		expectTick(t, m, lastTime+1, noTime)
		expectTick(t, m, latest, noTime)
		expectAll(t, m, 0, use{}, use{})
		expectTick(t, m, lastTime-1, ok)
		expectWindow(t, m, (lastTime-1)/window)
		expectTick(t, m, lastTime, ok)
		expectActs(t, m, 1, 3, ok)
		for _, now := range []int64{lastTime + 1, lastTime + window, latest, lastTime - 1, 0, -1, earliest} {
			expectTick(t, m, now, noTime)
		}
		expectTime(t, m, lastTime)
		expectAll(t, m, lastTime/window, use{0, 3}, use{})
	}
}

// What is refused does not move the time, nor the window, nor what was used; neither up nor down.
func TestRefusedTicksAreNotDone(t *testing.T) {
	m := busy(t)
	expectTick(t, m, 25, ok)
	expectActs(t, m, 1, 1, ok)
	expectActs(t, m, 2, 3, ok)
	for _, now := range []int64{24, 20, 19, 15, 10, 9, 0, -1, -25, -lastTime, earliest, lastTime + 1, lastTime + 25, 2 * lastTime, latest} {
		expectTick(t, m, now, noTime)
		expectAll(t, m, 2, use{0, 1}, use{1, 3})
		expectActs(t, m, 2, 1, noActs)
	}
	expectTime(t, m, 25)
	expectActs(t, m, 1, 2, ok)
	expectActs(t, m, 1, 1, noActs)
}

// The window is the time divided by its length, cut off.
func TestTheWindow(t *testing.T) {
	for _, c := range []struct{ length, time, window int64 }{
		{1, 0, 0}, {1, 1, 1}, {1, 2, 2}, {1, 999, 999}, {1, lastTime, lastTime},
		{2, 1, 0}, {2, 2, 1}, {2, 3, 1}, {2, 4, 2},
		{10, 0, 0}, {10, 5, 0}, {10, 9, 0}, {10, 10, 1}, {10, 15, 1}, {10, 19, 1}, {10, 20, 2}, {10, 99, 9}, {10, 100, 10},
		{3, lastTime, 333333333333333}, {7, lastTime, 142857142857142}, {1000003, 999999999990, 999996}, {1000003, 999999999991, 999997},
		{lastTime / 2, lastTime/2 - 1, 0}, {lastTime / 2, lastTime / 2, 1}, {lastTime / 2, lastTime, 2}, {lastTime/2 + 1, lastTime, 1},
		{lastTime - 1, lastTime - 2, 0}, {lastTime - 1, lastTime - 1, 1}, {lastTime - 1, lastTime, 1}, {lastTime, lastTime - 1, 0}, {lastTime, lastTime, 1},
	} {
		m := made(t, config(1, 0, 5, c.length))
		expectWindow(t, m, 0)
		expectActs(t, m, 1, 4, ok)
		expectTick(t, m, c.time, ok)
		if c.window == 0 {
			expectAll(t, m, 0, use{0, 4})
		} else {
			expectAll(t, m, c.window, use{0, 0})
		}
	}
}

// A new window takes everybody's actions away, and nobody's strategies; a step within one takes nothing.
func TestANewWindow(t *testing.T) {
	m := made(t, config(8, 8, 100, 10))
	var full, begun []use
	for client := 1; client <= 8; client++ {
		for range client {
			expectPlan(t, m, client, ok)
		}
		full = append(full, use{client, 10 * client})
		begun = append(begun, use{client, 0})
	}
	window := int64(0)
	for _, now := range []int64{3, 9, 10, 19, 20, 29, 35, 50, 58, 59, 1234, 1239, 1240, lastTime - 1, lastTime} {
		was := window
		window = now / 10
		for client := 1; client <= 8; client++ {
			if _, had := m.Used(client); had == 0 {
				expectActs(t, m, client, 10*client, ok)
			}
		}
		expectAll(t, m, was, full...)
		expectTick(t, m, now, ok)
		if window == was {
			expectAll(t, m, window, full...)
		} else {
			expectAll(t, m, window, begun...)
		}
	}
}

// Windows begin at their own times, not where somebody first had an action, nor where Tick was asked.
func TestWindowsBeginAtTheirOwnTimes(t *testing.T) {
	m := made(t, example())
	expectTick(t, m, 8, ok)
	expectActs(t, m, 1, 3, ok)
	expectTick(t, m, 10, ok)
	expectActs(t, m, 1, 3, ok)
	expectTick(t, m, 27, ok)
	expectActs(t, m, 1, 3, ok)
	expectTick(t, m, 29, ok)
	expectActs(t, m, 1, 1, noActs)
	expectTick(t, m, 30, ok)
	expectActs(t, m, 1, 3, ok)
	expectAll(t, m, 3, use{0, 3}, use{})
}

// Each time is a window of its own, where that is one long.
func TestTheShortestWindow(t *testing.T) {
	m := made(t, config(1, 0, 2, 1))
	for now := range int64(50) {
		expectTick(t, m, now, ok)
		expectActs(t, m, 1, 2, ok)
		expectTick(t, m, now, ok)
		expectActs(t, m, 1, 1, noActs)
		expectAll(t, m, now, use{0, 2})
	}
}
