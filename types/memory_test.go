package types_test

import (
	"errors"
	"reflect"
	"testing"

	"tripwire/api"
	"tripwire/types"
)

// expectKept tells whether what was handed in is still what it was: was is a copy of it, as copied makes it.
func expectKept[T any](t *testing.T, is, was T) {
	t.Helper()
	if !reflect.DeepEqual(is, was) {
		t.Errorf("%s was changed; it was %s", short(is), short(was))
	}
	lists(elem(&is), func(v reflect.Value) {
		if v.Cap() == v.Len() {
			return
		}
		if !reflect.DeepEqual(v.Slice(0, v.Len()+1).Index(v.Len()).Interface(), behind(v.Type().Elem()).Interface()) {
			t.Errorf("what lies behind a list of %s was changed", short(is))
		}
	})
}

// What is handed in is as it was behind the call, whether it is taken or refused; and what lies behind its lists is neither read nor changed.
func TestWhatIsHandedInStays(t *testing.T) {
	all := drawnStrategies(70000, 1000)
	for _, n := range append(wrongNodes(), deepNode()) {
		all = append(all, placesOfNodes(n)[0])
	}
	for _, x := range all {
		is, was := copied(x), copied(x)
		err := types.Check(is)
		expectKept(t, is, was)
		if err2 := types.Check(x); !reflect.DeepEqual(err, err2) {
			t.Errorf("%s; of a copy %s", told(err2), told(err))
		}
		for _, n := range exprsOf(x) {
			node, wasNode := copied(n), copied(n)
			to, err := types.Of(is, node)
			expectKept(t, is, was)
			expectKept(t, node, wasNode)
			if to2, err2 := types.Of(x, n); to2 != to || !reflect.DeepEqual(err, err2) {
				t.Errorf("%d, %s; of a copy %d, %s", to2, told(err2), to, told(err))
			}
		}
	}
}

// A wrong part stands behind each list in its memory: a register that would be found, a state, a thing done.
func TestWhatLiesBehindListsIsNotRead(t *testing.T) {
	regs := []api.Reg{{Name: "n", Type: tInt}, {Name: "zz", Type: tInt}}
	expectNoType(t, api.Strategy{Regs: regs[:1]}, at(4, reg("zz")), none, 4)
	s := doing(goTo("z"), halt())
	s.States[0].Rules[0].Dos = s.States[0].Rules[0].Dos[:1]
	expectFine(t, s)
	s.States = s.States[:1]
	expectWrong(t, s, none, 0)
	s = doing(cancel("u"))
	s.Slots = s.Slots[:1]
	expectWrong(t, s, none, 0)
	s = doing(set("d", buy()))
	s.Regs = s.Regs[:5]
	expectWrong(t, s, none, 0)
}

// A list that is nil and one that is empty are the same thing.
func TestEmptyListsAreNone(t *testing.T) {
	s := smallest()
	expectFine(t, s)
	s.Regs, s.Slots, s.States[0].Rules = []api.Reg{}, []api.Slot{}, []api.Rule{}
	expectFine(t, s)
	expectNoType(t, s, at(2, reg("i")), none, 2)
	n := reg("i")
	n.Kids = []api.Node{}
	expectType(t, full(), n, tInt)
	n.Kids = make([]api.Node, 0, 5)
	expectType(t, full(), unary(api.OperNeg, n), tInt)
	d := halt()
	d.Side.Kids, d.Value.Kids = []api.Node{}, []api.Node{}
	d.Qty.At, d.At = 7, -7
	expectFine(t, doing(d))
	d = market("o", buy(), lots())
	d.Price.Kids, d.Price.At = []api.Node{}, 9
	expectFine(t, doing(d))
	s.States = []api.State{}
	expectRefused(t, s, wrongForm)
}

// An error keeps nothing of what was handed in, and no two are one: who changes one changes no other.
func TestErrorsAreNew(t *testing.T) {
	s := full(api.Rule{When: at(9, reg("zz")), Dos: []api.Do{halt()}})
	one := types.Check(s)
	var outer, inner *api.Failure
	if !errors.As(one, &outer) || !errors.As(outer.Err, &inner) {
		t.Fatal(told(one))
	}
	outer.At, inner.At, inner.Err = 1, 2, fit
	expectWrongBelow(t, s, none, 9)
	expectNoType(t, s, at(9, reg("zz")), none, 9)
	_, err := types.Of(s, api.Node{})
	if !errors.As(err, &inner) {
		t.Fatal(told(err))
	}
	inner.Call, inner.At = "", 5
	expectNoType(t, s, api.Node{}, wrongForm, 0)
	err = types.Check(s)
	s.States[0].Rules[0].When.At = 10
	if !reflect.DeepEqual(err, aroundFailure(9, none)) {
		t.Error(told(err))
	}
}

// What is no error is nil, to the letter: no failure that is nil stands in it.
func TestNoErrorIsNil(t *testing.T) {
	if err := types.Check(smallest()); err != nil {
		t.Errorf("%#v", err)
	}
	if _, err := types.Of(api.Strategy{}, num(1)); err != nil {
		t.Errorf("%#v", err)
	}
}

// Calls know nothing of one another: asked in any order, again, and at the same time, they say the same.
func TestCallsKnowNothingOfOneAnother(t *testing.T) {
	s, other := full(), full()
	other.Regs[0].Name, other.Regs[1].Name = "q", "i"
	other.Regs[1].Type, other.Regs[0].Type = tQty, tInt
	all := func() {
		expectType(t, s, reg("i"), tInt)
		expectType(t, other, reg("i"), tQty)
		expectNoType(t, api.Strategy{}, at(3, reg("i")), none, 3)
		expectType(t, other, binary(api.OperAdd, reg("i"), lots()), tQty)
		expectNoType(t, s, at(1, binary(api.OperAdd, reg("i"), lots())), fit, 1)
		expectFine(t, doing(dosOfEach()[:7]...))
		expectWrong(t, doing(doAt(1, halt()), doAt(2, halt())), last, 2)
		expectWrongBelow(t, doing(set("i", at(6, reg("zz")))), none, 6)
	}
	all()
	all()
	done := make(chan bool)
	for range 4 {
		go func() {
			for range 50 {
				all()
			}
			done <- true
		}()
	}
	for range 4 {
		<-done
	}
}
