package print_test

import (
	"reflect"
	"testing"

	"tripwire/api"
	"tripwire/print"
)

// expectKept tells whether what was handed in is still what it was: was is a copy of it, as copied makes it.
func expectKept[T any](t *testing.T, is, was T) {
	t.Helper()
	if !reflect.DeepEqual(is, was) {
		t.Errorf("%s was changed; it was %s", short(is), short(was))
	}
	lists(elem(&is), func(v reflect.Value) {
		if v.Cap() == v.Len() {
			return
		}
		if !reflect.DeepEqual(v.Slice(0, v.Len()+1).Index(v.Len()).Interface(), behind(v.Type().Elem()).Interface()) {
			t.Errorf("what lies behind a list of %s was changed", short(is))
		}
	})
}

// What is handed in is as it was behind the call, whether it is taken or refused; and what lies behind its lists is neither read nor changed.
func TestWhatIsHandedInStays(t *testing.T) {
	d := drawer{draw(40)}
	for range 500 {
		x := d.strategy()
		is, was := copied(x), copied(x)
		s, no := print.Strategy(is)
		expectKept(t, is, was)
		if s2, no2 := print.Strategy(x); s2 != s || no2 != no {
			t.Errorf("%q, %d; of a copy %q, %d", short(s2), no2, short(s), no)
		}
		n := d.expr(1 + d.below(60))
		node, wasNode := copied(n), copied(n)
		s, no = print.Expr(node)
		expectKept(t, node, wasNode)
		if s2, no2 := print.Expr(n); s2 != s || no2 != no {
			t.Errorf("%q, %d; of a copy %q, %d", short(s2), no2, short(s), no)
		}
	}
	for _, n := range append(wrongNodes(), deepNode(), longNode(reg("a"))) {
		is, was := copied(n), copied(n)
		print.Expr(is)
		expectKept(t, is, was)
		for _, x := range placesOfNodes(n) {
			is, was := copied(x), copied(x)
			print.Strategy(is)
			expectKept(t, is, was)
		}
	}
}

// A text stays as it is, however its tree is changed behind the call.
func TestTextsKeepNothingOfTrees(t *testing.T) {
	for _, seed := range seeds() {
		x := copied(seed)
		s, _ := print.Strategy(x)
		want := modelStrategy(seed)
		leaves(elem(&x), "", func(_ string, v reflect.Value) { v.SetZero() })
		if s != want {
			t.Errorf("%q; want %q", s, want)
		}
	}
}

// A list that is nil and one that is empty are the same thing.
func TestEmptyListsAreNone(t *testing.T) {
	s := smallest()
	want, _ := print.Strategy(s)
	s.Regs, s.Slots, s.States[0].Rules = []api.Reg{}, []api.Slot{}, []api.Rule{}
	expectStrategy(t, s, want)
	n := reg("a")
	n.Kids = []api.Node{}
	expectExpr(t, n, "a")
	n.Kids = make([]api.Node, 0, 5)
	expectExpr(t, unary(1, n), "-a")
	d := halt()
	d.Side.Kids, d.Value.Kids = []api.Node{}, []api.Node{}
	d.Qty.At, d.At = 7, -7
	expectDos(t, "halt", d)
	s.States = []api.State{}
	expectNoStrategy(t, s, wrongForm)
	s = ruled(has(1))
	s.States[0].Rules[0].Dos = []api.Do{}
	expectNoStrategy(t, s, wrongForm)
}

// Calls know nothing of one another: asked in any order, again, and at the same time, they say the same.
func TestCallsKnowNothingOfOneAnother(t *testing.T) {
	sum := binary(8, binary(6, reg("a"), reg("b")), num(3))
	all := func() {
		expectNoExpr(t, longNode(reg("a")), tooLong)
		expectExpr(t, sum, "(a + b) * 3")
		expectNoExpr(t, deepNode(), tooDeep)
		expectNoStrategy(t, ruled(longNode(reg("a")), halt()), tooLong)
		expectStrategy(t, ruled(sum, halt()), ruleText("(a + b) * 3", "halt"))
		expectNoTidy(t, "strategy s{}", failure(api.ErrParseToken, 11))
		expectNoTidy(t, wide(most+1), tidyTooLong)
		expectTidy(t, "strategy s{state a{}}", "strategy s {\n  state a {\n  }\n}\n")
	}
	all()
	all()
	done := make(chan bool)
	for range 4 {
		go func() {
			for range 50 {
				all()
			}
			done <- true
		}()
	}
	for range 4 {
		<-done
	}
	// Two failures are two: who changes one does not change the other.
	_, one := print.Tidy(wide(most + 1))
	one.(*api.Failure).At = 99
	expectNoTidy(t, wide(most+1), tidyTooLong)
}
