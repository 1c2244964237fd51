package quota_test

import (
	"testing"

	"tripwire/quota"
)

func exampleActs(t *testing.T, m *quota.Meter) {
	t.Helper()
	expectActs(t, m, 1, 2, ok)
	expectActs(t, m, 1, 2, noActs)
	expectActs(t, m, 1, 1, ok)
	expectActs(t, m, 1, 0, ok)
	expectActs(t, m, 2, 3, ok)
	expectUsed(t, m, 1, 0, 3)
	expectTick(t, m, 9, ok)
	expectActs(t, m, 1, 1, noActs)
	expectTick(t, m, 10, ok)
	expectUsed(t, m, 1, 0, 0)
	expectWindow(t, m, 1)
	expectTick(t, m, 9, noTime)
}

func examplePlans(t *testing.T, m *quota.Meter) {
	t.Helper()
	expectPlan(t, m, 1, ok)
	expectPlan(t, m, 1, noPlan)
	expectDrop(t, m, 1, ok)
	expectDrop(t, m, 1, noPlan)
	expectPlan(t, m, 3, wrong)
	expectActs(t, m, 1, -1, wrong)
}

func TestExampleOne(t *testing.T) { exampleActs(t, made(t, example())) }

func TestExampleTwo(t *testing.T) { examplePlans(t, made(t, example())) }

func TestExamplesOneBehindTheOther(t *testing.T) {
	m := made(t, example())
	exampleActs(t, m)
	examplePlans(t, m)
	expectAll(t, m, 1, use{}, use{})

	m = made(t, example())
	examplePlans(t, m)
	exampleActs(t, m)
	expectAll(t, m, 1, use{}, use{})
}
