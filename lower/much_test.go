package lower_test

import (
	"errors"
	"reflect"
	"slices"
	"testing"

	"tripwire/api"
	"tripwire/cost"
	"tripwire/lower"
)

// longish is of TypeInt, has just so many instructions, one at least, and no constant.
func longish(count int) api.Node {
	if count%2 == 0 {
		return unary(api.OperNeg, longish(count-1))
	}
	return row(api.OperAdd, reg("i"), reg("i"), count/2)
}

// sharedOut is a number as a sum of so many.
func sharedOut(sum, count int) []int {
	all := make([]int, count)
	for k := range all {
		all[k] = (sum + k) / count
	}
	return all
}

// withCode has just so many instructions: 12 guards of one each, and what comes behind each of them.
func withCode(count int) api.Strategy {
	s := full()
	for _, much := range sharedOut(count-12, 12) {
		s.States[0].Rules = append(s.States[0].Rules, rule(reg("b"), set("i", longish(much))))
	}
	return s
}

// withConsts has just so many constants, from 1000 on.
func withConsts(count int) api.Strategy {
	s := full()
	next := int64(1000)
	for _, much := range sharedOut(count, 12) {
		n := reg("i")
		for range much {
			n = binary(api.OperAdd, n, num(next))
			next++
		}
		s.States[0].Rules = append(s.States[0].Rules, rule(reg("b"), set("i", n)))
	}
	return s
}

// expectTooLong tells whether a strategy is refused for what its table would have, although it costs no more than it may.
func expectTooLong(t *testing.T, s api.Strategy) {
	t.Helper()
	if _, err := cost.Strategy(s); err != nil {
		t.Fatal(told(err))
	}
	expectRefused(t, s, &api.Failure{Call: "Lower", At: 0, Err: tooLong})
	_, err := lower.Strategy(s)
	expectFound(t, err, tooLong, 0)
}

// A table may have 4096 instructions, and no more.
func TestCodeOfAbout4096(t *testing.T) {
	for count := 4090; count < 4102; count++ {
		s := withCode(count)
		if count > 4096 {
			expectTooLong(t, s)
			expectTooLong(t, numbered(s))
			continue
		}
		if x := tableOf(t, s); len(x.Code) != count || !sameTable(x, modelTable(s)) {
			t.Errorf("%d instructions; want %d", len(x.Code), count)
		}
	}
	expectTooLong(t, withCode(5800))
	s := withCode(4096)
	s.States[1].Rules = []api.Rule{rule(reg("b"), halt())}
	expectTooLong(t, s)
	s.States[0].Rules[7].Dos[0].Value = longish(339)
	if x := tableOf(t, s); len(x.Code) != 4096 || x.States[1][0].When != span(4095, 4096) {
		t.Errorf("%d instructions, the last %v", len(x.Code), x.States[1][0].When)
	}
}

// What is folded away does not count, however much it was.
func TestCodeThatIsFolded(t *testing.T) {
	s := full()
	sum := row(api.OperAdd, num(1), num(1), 240)
	for range 12 {
		s.States[0].Rules = append(s.States[0].Rules, rule(reg("b"), set("i", sum)))
	}
	x := tableOf(t, s)
	if len(x.Code) != 24 || !slices.Equal(x.Consts, []int64{241}) {
		t.Errorf("%d instructions, %v", len(x.Code), x.Consts)
	}
	for k := range s.States[0].Rules {
		s.States[0].Rules[k].Dos[0].Value = row(api.OperAdd, reg("i"), num(1), 240)
	}
	expectTooLong(t, s)
}

// A few steps can have much code: of a cond one way alone is gone.
func TestMuchCodeOfFewSteps(t *testing.T) {
	ways := func(n api.Node, deep int) api.Node {
		return grown(n, deep, func(n api.Node) api.Node { return cond(reg("b"), n, n) })
	}
	// Each has the code of both kids, and three more.
	s := doing(set("i", ways(reg("i"), 10)))
	if x := tableOf(t, s); len(x.Code) != 1+4*1024-3 {
		t.Errorf("%d instructions", len(x.Code))
	}
	most := ways(reg("i"), 10)
	if x := tableOf(t, doing(set("i", most), set("i", reg("i")), set("i", reg("i")))); len(x.Code) != 4096 {
		t.Errorf("%d instructions", len(x.Code))
	}
	expectTooLong(t, doing(set("i", most), set("i", reg("i")), set("i", reg("i")), set("i", reg("i"))))
	expectTooLong(t, doing(set("i", ways(reg("i"), 12))))
	// One way is known ahead: the other has no code.
	expectTooLong(t, doing(set("i", cond(reg("b"), ways(reg("i"), 11), num(1)))))
	if x := tableOf(t, doing(set("i", cond(truly(), num(1), ways(reg("i"), 11))))); len(x.Code) != 2 {
		t.Errorf("%d instructions", len(x.Code))
	}
}

// A table may have 1024 constants, and no more; how often they come does not count.
func TestConstsOfAbout1024(t *testing.T) {
	for count := 1020; count < 1030; count++ {
		s := withConsts(count)
		if count > 1024 {
			expectTooLong(t, s)
			continue
		}
		x := tableOf(t, s)
		if len(x.Consts) != count || !sameTable(x, modelTable(s)) {
			t.Errorf("%d constants; want %d", len(x.Consts), count)
		}
		for k, n := range x.Consts {
			if n != int64(1000+k) {
				t.Fatalf("%d stands at %d", n, k)
			}
		}
	}
	s := withConsts(1024)
	s.States[1].Rules = []api.Rule{rule(expr(t, "i == 1000 || i == 2023"), set("q", lit(tQty, 1500)))}
	if x := tableOf(t, s); len(x.Consts) != 1024 {
		t.Errorf("%d constants", len(x.Consts))
	}
	s.States[1].Rules[0].Dos[0].Value = lit(tQty, 999)
	expectTooLong(t, s)
	s.States[1].Rules[0].Dos[0].Value = expr(t, "999q + 501q")
	if x := tableOf(t, s); len(x.Consts) != 1024 {
		t.Errorf("%d constants", len(x.Consts))
	}
	expectTooLong(t, withConsts(1500))
}

// Both at once are one error; each is enough for it.
func TestCodeAndConsts(t *testing.T) {
	both := func(instrs, consts int) api.Strategy {
		s := withConsts(consts)
		// So many come of these already: guards, and of each constant two.
		left := instrs - 24 - 2*consts
		for _, much := range sharedOut(left, 12) {
			s.States[1].Rules = append(s.States[1].Rules, rule(reg("b"), set("i", longish(much-1))))
		}
		return s
	}
	if x := tableOf(t, both(4096, 1024)); len(x.Code) != 4096 || len(x.Consts) != 1024 {
		t.Errorf("%d instructions, %d constants", len(x.Code), len(x.Consts))
	}
	expectTooLong(t, both(4097, 1024))
	expectTooLong(t, both(4096, 1025))
	expectTooLong(t, both(4097, 1025))
	expectTooLong(t, both(4500, 1400))
}

// The error is found by errors.Is and errors.As; each is one of its own: who changes one changes no other.
func TestTheErrorOfTooMuchCode(t *testing.T) {
	s := numbered(withCode(4097))
	for range 2 {
		_, err := lower.Strategy(s)
		var f *api.Failure
		if !errors.As(err, &f) || f.Call != "Lower" || f.At != 0 || f.Err != error(api.ErrLowerCode) || !errors.Is(err, api.Errno(180)) {
			t.Fatal(told(err))
		}
		f.Call, f.At, f.Err = "", 5, fit
	}
}

// What costs too much is refused for that, and what is wrong for that, whatever its table would have.
func TestOtherErrorsComeFirst(t *testing.T) {
	s := withCode(4097)
	s.States[0].Rules[3].Dos = append(s.States[0].Rules[3].Dos, set("q", at(9, num(1))))
	s.States[1].Rules = []api.Rule{rule(row(api.OperAnd, reg("b"), reg("b"), 250), halt())}
	expectRefused(t, s, &api.Failure{Call: "Check", At: 9, Err: fit})
	s.States[0].Rules[3].Dos = s.States[0].Rules[3].Dos[:1]
	expectRefused(t, s, &api.Failure{Call: "Strategy", At: 0, Err: tooMuch})
	s.States[1].Rules[0].When = reg("b")
	expectTooLong(t, s)
	s.States[0].Rules = s.States[0].Rules[1:]
	if x := tableOf(t, s); reflect.DeepEqual(x, api.Table{}) {
		t.Error(x)
	}
	// It costs too much as it stands, though little is left of it when it is folded.
	expectRefused(t, full(rule(row(api.OperAnd, truly(), truly(), 250), halt())), &api.Failure{Call: "Strategy", At: 0, Err: tooMuch})
}
