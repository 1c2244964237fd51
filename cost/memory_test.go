package cost_test

import (
	"reflect"
	"slices"
	"testing"

	"tripwire/api"
	"tripwire/cost"
)

// expectKept tells whether what was handed in is still what it was: was is a copy of it, as copied makes it.
func expectKept[T any](t *testing.T, is, was T) {
	t.Helper()
	if !reflect.DeepEqual(is, was) {
		t.Errorf("%s was changed; it was %s", short(is), short(was))
	}
	lists(elem(&is), func(v reflect.Value) {
		if v.Cap() == v.Len() {
			return
		}
		if !reflect.DeepEqual(v.Slice(0, v.Len()+1).Index(v.Len()).Interface(), behind(v.Type().Elem()).Interface()) {
			t.Errorf("what lies behind a list of %s was changed", short(is))
		}
	})
}

// What is handed in is as it was behind each call, whether it is taken or refused; and what lies behind its lists is neither read nor changed.
func TestWhatIsHandedInStays(t *testing.T) {
	all := drawnStrategies(70000, 600)
	for _, x := range refusedOfEach(rule(asking(501), halt())) {
		all = append(all, x.s)
	}
	for _, x := range all {
		is, was := copied(x), copied(x)
		costs, err := cost.States(is)
		expectKept(t, is, was)
		if costs2, err2 := cost.States(x); !slices.Equal(costs, costs2) || !reflect.DeepEqual(err, err2) {
			t.Errorf("%v, %s; of a copy %v, %s", costs2, told(err2), costs, told(err))
		}
		most, err := cost.Strategy(is)
		expectKept(t, is, was)
		if most2, err2 := cost.Strategy(x); most != most2 || !reflect.DeepEqual(err, err2) {
			t.Errorf("%v, %s; of a copy %v, %s", most2, told(err2), most, told(err))
		}
		for _, n := range exprsOf(x) {
			node, wasNode := copied(n), copied(n)
			w := cost.Expr(node)
			expectKept(t, node, wasNode)
			expectWeight(t, n, w)
		}
	}
	for _, n := range append(wrongNodes(), deepNode()) {
		node, was := copied(n), copied(n)
		cost.Expr(node)
		expectKept(t, node, was)
	}
}

// Rules, things done, states and kids that lie behind a list's length cost nothing.
func TestWhatLiesBehindListsIsNotRead(t *testing.T) {
	s := full(rule(asking(3), cancel("o"), cancel("o")), rule(asking(9), set("p", pricey(9))))
	s.States[0].Rules = s.States[0].Rules[:1]
	expectCosts(t, s, api.Cost{Steps: 3, Acts: 2}, api.Cost{})
	s.States[0].Rules[0].Dos = s.States[0].Rules[0].Dos[:1]
	expectCosts(t, s, api.Cost{Steps: 3, Acts: 1}, api.Cost{})
	s.States = s.States[:1]
	expectCosts(t, s, api.Cost{Steps: 3, Acts: 1})
	kids := []api.Node{num(1), weighing(9), weighing(9)}
	expectWeight(t, unary(api.OperNeg, kids[:1]...), 2)
	leaf := num(1)
	leaf.Kids = kids[:0]
	expectWeight(t, leaf, 1)
	kids = []api.Node{has(1), num(1), num(2), weighing(9)}
	expectWeight(t, cond(kids[:3]...), 4)
	expectWeight(t, conv(tInt, kids[1:2]...), 1)
}

// Each call hands out a list of its own, to its room's end: who writes into one changes no other, nor what is told later.
func TestListsAreNew(t *testing.T) {
	s := inStates([]api.Rule{rule(asking(3), cancel("o"))}, nil, []api.Rule{rule(asking(5), halt())})
	want := []api.Cost{{Steps: 3, Acts: 1}, {}, {Steps: 5}}
	var all [][]api.Cost
	for range 5 {
		l, err := cost.States(s)
		if err != nil || !slices.Equal(l, want) {
			t.Fatal(l, err)
		}
		all = append(all, l)
	}
	for k, l := range all {
		room := l[:cap(l)]
		for e := range room {
			room[e] = api.Cost{Steps: -k, Acts: -1}
		}
		for _, other := range all[k+1:] {
			if !slices.Equal(other, want) {
				t.Errorf("another list is %v", other)
			}
		}
		expectCosts(t, s, want...)
	}
}

// A list that is nil and one that is empty are the same thing.
func TestEmptyListsAreNone(t *testing.T) {
	s := smallest()
	s.Regs, s.Slots, s.States[0].Rules = []api.Reg{}, []api.Slot{}, []api.Rule{}
	expectCosts(t, s, api.Cost{})
	s.States = []api.State{}
	expectRefused(t, s, wrongForm, 0)
	n := reg("i")
	n.Kids = []api.Node{}
	expectWeight(t, n, 1)
	n.Kids = make([]api.Node, 0, 5)
	expectWeight(t, unary(api.OperNeg, n), 2)
	n = unary(api.OperNeg)
	n.Kids = []api.Node{}
	expectWeight(t, n, 0)
}

// What is no error is nil, to the letter: no failure that is nil stands in it.
func TestNoErrorIsNil(t *testing.T) {
	if _, err := cost.States(smallest()); err != nil {
		t.Errorf("%#v", err)
	}
	if _, err := cost.Strategy(smallest()); err != nil {
		t.Errorf("%#v", err)
	}
}

// Calls know nothing of one another: asked in any order, again, and at the same time, they say the same.
func TestCallsKnowNothingOfOneAnother(t *testing.T) {
	all := func() {
		expectWeight(t, cond(weighing(3), weighing(9), weighing(4)), 14)
		expectWeight(t, api.Node{}, 0)
		expectCosts(t, full(rule(asking(3), cancel("o"))), api.Cost{Steps: 3, Acts: 1}, api.Cost{})
		expectCosts(t, full(rule(asking(501), cancel("o"))), api.Cost{Steps: 501, Acts: 1}, api.Cost{})
		expectRefused(t, full(rule(at(9, reg("zz")), halt())), none, 9)
		expectCosts(t, smallest(), api.Cost{})
	}
	all()
	all()
	done := make(chan bool)
	for range 4 {
		go func() {
			for range 50 {
				all()
			}
			done <- true
		}()
	}
	for range 4 {
		<-done
	}
}
