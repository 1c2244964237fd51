package quota_test

import "testing"

// Up to the last one and once more, down to none and once more, several times.
func TestPlansUpAndDown(t *testing.T) {
	for most := 0; most <= mostOf; most++ {
		m := made(t, config(2, most, 3, 10))
		for range 3 {
			for has := range most {
				expectAll(t, m, 0, use{has, 0}, use{})
				expectPlan(t, m, 1, ok)
			}
			for range 2 {
				expectPlan(t, m, 1, noPlan)
				expectAll(t, m, 0, use{most, 0}, use{})
			}
			for has := most; has > 0; has-- {
				expectAll(t, m, 0, use{has, 0}, use{})
				expectDrop(t, m, 1, ok)
			}
			for range 2 {
				expectDrop(t, m, 1, noPlan)
				expectAll(t, m, 0, use{}, use{})
			}
		}
	}
}

func TestWithoutStrategies(t *testing.T) {
	m := made(t, config(2, 0, 3, 10))
	for _, client := range []int{1, 2} {
		expectPlan(t, m, client, noPlan)
		expectDrop(t, m, client, noPlan)
		expectPlan(t, m, client, noPlan)
	}
	expectPlan(t, m, 3, wrong)
	expectDrop(t, m, 3, wrong)
	expectAll(t, m, 0, use{}, use{})
}

// A place that was given back may be taken again, by the same client alone.
func TestAPlaceIsTakenAgain(t *testing.T) {
	m := made(t, config(2, 2, 3, 10))
	for range 2 {
		expectPlan(t, m, 1, ok)
		expectPlan(t, m, 2, ok)
	}
	expectDrop(t, m, 1, ok)
	expectPlan(t, m, 2, noPlan)
	expectPlan(t, m, 1, ok)
	expectPlan(t, m, 1, noPlan)
	expectAll(t, m, 0, use{2, 0}, use{2, 0})
}

// Who is no client gets ErrArg, whether or not others have room, and takes and gives nothing.
func TestPlansOfNobody(t *testing.T) {
	for clients := 1; clients <= mostClients; clients++ {
		m := made(t, config(clients, 2, 3, 10))
		want := make([]use, clients)
		for has := range 3 {
			for _, client := range nobody(clients) {
				expectPlan(t, m, client, wrong)
				expectDrop(t, m, client, wrong)
				expectAll(t, m, 0, want...)
			}
			for client := 1; client <= clients && has < 2; client++ {
				expectPlan(t, m, client, ok)
				want[client-1].strats++
			}
		}
	}
}

// Strategies are no matter of windows.
func TestPlansStayInANewWindow(t *testing.T) {
	m := made(t, config(2, 3, 3, 10))
	expectPlan(t, m, 1, ok)
	expectPlan(t, m, 1, ok)
	expectPlan(t, m, 2, ok)
	for _, now := range []int64{5, 10, 20, 1000, lastTime} {
		expectTick(t, m, now, ok)
		expectAll(t, m, now/10, use{2, 0}, use{1, 0})
	}
	expectPlan(t, m, 1, ok)
	expectPlan(t, m, 1, noPlan)
	expectDrop(t, m, 2, ok)
	expectDrop(t, m, 2, noPlan)
	expectAll(t, m, lastTime/10, use{3, 0}, use{})
}

// No action is needed for a strategy.
func TestPlansTakeNoActs(t *testing.T) {
	for _, acts := range []int{0, 1, mostActs} {
		m := made(t, config(1, 2, acts, 10))
		expectActs(t, m, 1, acts, ok)
		expectPlan(t, m, 1, ok)
		expectPlan(t, m, 1, ok)
		expectPlan(t, m, 1, noPlan)
		expectDrop(t, m, 1, ok)
		expectAll(t, m, 0, use{1, acts})
	}
}
