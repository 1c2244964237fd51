package lower_test

import (
	"reflect"
	"testing"

	"tripwire/api"
	"tripwire/lower"
)

// expectKept tells whether what was handed in is still what it was, and what lies behind its lists, too: was is a copy of it, as copied makes it.
func expectKept[T any](t *testing.T, is, was T) {
	t.Helper()
	if !reflect.DeepEqual(is, was) {
		t.Errorf("%s was changed; it was %s", short(is), short(was))
	}
	lists(elem(&is), func(v reflect.Value) {
		if v.Cap() == v.Len() {
			return
		}
		if !reflect.DeepEqual(v.Slice(0, v.Len()+1).Index(v.Len()).Interface(), behind(v.Type().Elem()).Interface()) {
			t.Errorf("what lies behind a list of %s was changed", short(is))
		}
	})
}

// expectApart tells whether no two lists of these things, to the ends of their rooms, share any memory.
func expectApart(t *testing.T, things ...any) {
	t.Helper()
	type room struct{ from, to uintptr }
	var all []room
	for _, x := range things {
		lists(elem(x), func(v reflect.Value) {
			if v.Cap() == 0 {
				return
			}
			mine := room{v.Pointer(), v.Pointer() + uintptr(v.Cap())*v.Type().Elem().Size()}
			for _, other := range all {
				if mine.from < other.to && other.from < mine.to {
					t.Errorf("two lists share memory: one is %s", short(v.Interface()))
				}
			}
			all = append(all, mine)
		})
	}
}

// spoil writes noughts into all lists of a thing, to the ends of their rooms.
func spoil(x any) {
	var all []reflect.Value
	lists(elem(x), func(v reflect.Value) { all = append(all, v.Slice(0, v.Cap())) })
	for _, v := range all {
		for k := range v.Len() {
			v.Index(k).SetZero()
		}
	}
}

// What is handed in is as it was behind each call, whether it is taken or refused, and also when what came out has been written into; what lies behind its lists is neither read nor changed, nor handed out.
func TestWhatIsHandedInStays(t *testing.T) {
	all := drawnStrategies(800000, 300)
	for _, x := range refusedOfEach() {
		all = append(all, x.s)
	}
	all = append(all, withCode(4096), withCode(4097), withConsts(1025))
	taken, refused := 0, 0
	for _, s := range all {
		is, was := copied(s), copied(s)
		x, err := lower.Strategy(is)
		expectKept(t, is, was)
		if x2, err2 := lower.Strategy(s); !sameTable(x, x2) || !reflect.DeepEqual(err, err2) {
			t.Errorf("%s, %s; of a copy %s, %s", short(x2), told(err2), short(x), told(err))
		}
		expectApart(t, &is, &x)
		spoil(&x)
		expectKept(t, is, was)
		if err == nil {
			taken++
		} else {
			refused++
		}
	}
	if taken < 150 || refused < 50 {
		t.Errorf("%d were taken, %d refused", taken, refused)
	}
}

// exprsOfEach are expressions of each way in which folding answers: as they are, reckoned, chosen, in part, refused.
func exprsOfEach(t *testing.T) []api.Node {
	t.Helper()
	all := append(wrongNodes(), deepNode())
	for _, text := range []string{
		"n", "has bid", "n + 1", "n + (1 + 2)", "1 + 2", "-1", "1 / 0", "true && x && y", "x && (true && y)", "true ? min(a, b) : c", "false ? c : min(a, b) + 1", "x ? 1 + 1 : abs(n)", "false && x", "-(n - 1)", "price(n) * 2", "true ? x ? a : b : c", "1 + true",
	} {
		all = append(all, expr(t, text))
	}
	for k := range 300 {
		d := drawer{below: draw(uint64(k)), regs: full().Regs, slips: 20, known: k%2 == 0}
		all = append(all, d.expr(d.typed(), 1+d.below(20)))
	}
	return all
}

func TestExpressionsThatAreHandedInStay(t *testing.T) {
	for _, n := range exprsOfEach(t) {
		is, was := copied(n), copied(n)
		x := lower.Fold(is)
		expectKept(t, is, was)
		y := lower.Fold(is)
		if !sameNode(x, y) || !sameNode(x, lower.Fold(n)) {
			t.Errorf("Fold(%s) is %s, then %s", short(n), short(x), short(y))
		}
		expectApart(t, &is, &x, &y)
		again := copied(y)
		spoil(&x)
		expectKept(t, is, was)
		if !sameNode(y, again) {
			t.Errorf("Fold(%s) has changed", short(n))
		}
		spoil(&is)
		if !sameNode(y, again) {
			t.Errorf("Fold(%s) has changed with what was handed in", short(n))
		}
	}
}

// Kids that several nodes have in common when they are handed in are each one's own when they come out.
func TestCommonKidsComeApart(t *testing.T) {
	kids := []api.Node{reg("n"), num(1)}
	sum := binary(api.OperAdd, kids...)
	for _, n := range []api.Node{binary(api.OperMul, sum, sum), cond(has(1), sum, sum), cond(truly(), call(api.OperMin, sum, sum), sum), {Kind: 77, Kids: []api.Node{sum, sum}}} {
		x, y := lower.Fold(n), lower.Fold(n)
		expectApart(t, &kids, &x, &y)
	}
	s := full(times(3, rule(binary(api.OperGt, sum, sum), times(3, set("i", sum))...))...)
	s.Regs[0].Name = "n"
	for k := range s.States[0].Rules {
		for e := range s.States[0].Rules[k].Dos {
			s.States[0].Rules[k].Dos[e].Name = "n"
		}
	}
	x, y := tableOf(t, s), tableOf(t, s)
	expectApart(t, &kids, &x, &y)
}

// Tables that come out are their owner's, to their lists' rooms' ends: who writes into one changes no other, nor what is told later; nor does who writes into what was handed in.
func TestTablesThatComeOutAreNew(t *testing.T) {
	for _, text := range []string{exampleText, "strategy s{state a{}}", "strategy s { reg b bool = true; reg d side = buy; slot o; state a { when b do cancel o; when b do set b = !b, submit d of 1q market as o; } state c { when true do goto a; } }"} {
		s := strategy(t, text)
		want := modelTable(s)
		var all []api.Table
		for range 3 {
			mine := copied(s)
			x := tableOf(t, mine)
			spoil(&mine)
			y, _, err := lower.Source(text)
			if err != nil {
				t.Fatal(told(err))
			}
			all = append(all, x, y)
		}
		expectApart(t, &all[0], &all[1], &all[2], &all[3], &all[4], &all[5])
		for k := range all {
			if !sameTable(all[k], want) {
				t.Errorf("%+v has changed; it was %+v", all[k], want)
			}
			spoil(&all[k])
			expectTable(t, s, want)
		}
	}
}

// Rules, things done, states, slots and kids that lie behind a list's length are not read.
func TestWhatLiesBehindListsIsNotRead(t *testing.T) {
	s := full(rule(reg("b"), cancel("o"), halt()), rule(reg("zz"), halt()))
	s.States[0].Rules = s.States[0].Rules[:1]
	s.States[0].Rules[0].Dos = s.States[0].Rules[0].Dos[:1]
	s.States, s.Slots, s.Regs = s.States[:1], s.Slots[:1], s.Regs[:5]
	expectTable(t, s, api.Table{Name: "s", Regs: []int64{1, 1, -1, 1, 1}, Slots: 1, Code: code("reg 4"), States: [][]api.Guard{{{When: span(0, 1), Regs: 16, Rows: []api.Row{{Kind: api.DoCancel, Index: 1}}}}}})
	kids := []api.Node{num(4), num(5), reg("i")}
	expectFold(t, binary(api.OperAdd, kids[:2]...), num(9))
	expectFold(t, unary(api.OperNot, []api.Node{falsely(), num(1)}[:1]...), truly())
	leaf := num(1)
	leaf.Kids = kids[:0]
	expectFold(t, binary(api.OperAdd, leaf, leaf), num(2))
}

// A list that is nil and one that is empty are the same thing.
func TestEmptyListsAreNone(t *testing.T) {
	s := smallest()
	s.Regs, s.Slots, s.States[0].Rules = []api.Reg{}, []api.Slot{}, []api.Rule{}
	expectTable(t, s, tableOf(t, smallest()))
	d := set("i", num(3))
	d.Value.Kids, d.Side.Kids, d.Qty.Kids, d.Price.Kids = []api.Node{}, []api.Node{}, []api.Node{}, []api.Node{}
	expectTable(t, doing(d), tableOf(t, doing(set("i", num(3)))))
	s.States = []api.State{}
	expectRefused(t, s, &api.Failure{Call: "Check", Err: wrongForm})
	leaf := reg("i")
	leaf.Kids = []api.Node{}
	expectFold(t, leaf, reg("i"))
	expectFold(t, binary(api.OperAdd, leaf, leaf), binary(api.OperAdd, reg("i"), reg("i")))
	one := num(1)
	one.Kids = make([]api.Node, 0, 3)
	expectFold(t, binary(api.OperAdd, one, one), num(2))
}

// Calls know nothing of one another: asked in any order, again, and at the same time, they say the same.
func TestCallsKnowNothingOfOneAnother(t *testing.T) {
	s, long := strategy(t, exampleText), withConsts(1025)
	want := modelTable(s)
	all := func() {
		expectTable(t, s, want)
		expectTooLong(t, long)
		expectFolds(t, "1 + 2 * 3 > n", "7 > n")
		expectNoSource(t, "strategy s {", &api.Failure{Call: "Strategy", At: 12, Err: api.ErrParseToken}, api.ErrParseToken, 12)
		if x, most, err := lower.Source(exampleText); !sameTable(x, want) || most != (api.Cost{Steps: 11, Acts: 1}) || err != nil {
			t.Error(x, most, told(err))
		}
	}
	all()
	all()
	done := make(chan bool)
	for range 4 {
		go func() {
			for range 20 {
				all()
			}
			done <- true
		}()
	}
	for range 4 {
		<-done
	}
}
