package mean_test

import (
	"reflect"
	"slices"
	"testing"

	"tripwire/api"
	"tripwire/mean"
)

// expectKept tells whether what was handed in is still what it was, and what lies behind its lists, too: was is a copy of it, as copied makes it.
func expectKept[T any](t *testing.T, is, was T) {
	t.Helper()
	if !reflect.DeepEqual(is, was) {
		t.Errorf("%s was changed; it was %s", short(is), short(was))
	}
	lists(elem(&is), func(v reflect.Value) {
		if v.Cap() == v.Len() {
			return
		}
		if !reflect.DeepEqual(v.Slice(0, v.Len()+1).Index(v.Len()).Interface(), behind(v.Type().Elem()).Interface()) {
			t.Errorf("what lies behind a list of %s was changed", short(is))
		}
	})
}

// spoil writes into all of a list's room.
func spoil[T any](l []T, with T) {
	room := l[:cap(l)]
	for k := range room {
		room[k] = with
	}
}

// What is handed in is as it was behind each call, whether it is taken or refused, and also when what came out has been written into; what lies behind its lists is neither read nor changed.
func TestWhatIsHandedInStays(t *testing.T) {
	all := drawnStrategies(800000, 300)
	for _, x := range refusedOfEach() {
		all = append(all, x.s)
	}
	reached := map[string]int{}
	for k, x := range all {
		d := drawer{below: draw(uint64(k)), slips: 20}
		is, was := copied(x), copied(x)
		m, no := mean.Start(is)
		expectKept(t, is, was)
		if m2, no2 := mean.Start(x); !sameMode(m, m2) || no != no2 {
			t.Errorf("%v, %d; of a copy %v, %d", m2, no2, m, no)
		}
		spoil(m.Regs, -5)
		expectKept(t, is, was)
		for range 4 {
			m, w, granted := d.mode(x), d.snap(), d.below(2) == 0
			mine, wasMode := copied(m), copied(m)
			f, next, no := mean.Turn(is, mine, w, granted)
			reached[outcome(f, no)]++
			f2, next2, no2 := mean.Turn(x, m, w, granted)
			if !sameFiring(f, f2) || !sameMode(next, next2) || no != no2 {
				t.Errorf("%+v, %v, %d; of a copy %+v, %v, %d", f2, next2, no2, f, next, no)
			}
			spoil(f.Actions, api.Action{Slot: -5})
			spoil(next.Regs, -5)
			expectKept(t, is, was)
			expectKept(t, mine, wasMode)
			for _, n := range exprsOf(x) {
				node, wasNode := copied(n), copied(n)
				v, no := mean.Value(is, node, mine, w)
				expectKept(t, is, was)
				expectKept(t, mine, wasMode)
				expectKept(t, node, wasNode)
				if v2, no2 := mean.Value(x, n, m, w); v != v2 || no != no2 {
					t.Errorf("%d, %d; of a copy %d, %d", v2, no2, v, no)
				}
			}
		}
	}
	for _, kind := range []string{"nothing", "fires", "fires actions", "halts", "refused", "faults 10", "faults 170", "error 171", "error 100", "error 120"} {
		if reached[kind] < 5 {
			t.Errorf("%q was reached %d times; all: %v", kind, reached[kind], reached)
		}
	}
}

// asked is what a turn is asked with.
type asked struct {
	m       api.Mode
	w       api.Snap
	granted bool
}

// turnsOfEach are turns that come to each kind of thing, in one strategy.
func turnsOfEach() (api.Strategy, map[string]asked) {
	s := full(
		rule(has(1), submit("o", buy(), lots(), field(1)), set("i", num(9)), cancel("u")),
		rule(has(2), set("q", lots()), goTo("z")),
		rule(has(3), set("i", faulty(zero))),
		rule(binary(api.OperGt, field(5), lit(tTime, 5)), halt()),
	)
	return s, map[string]asked{
		"fires actions": {begun(), api.Snap{Bid: 5}, true},
		"refused":       {begun(), api.Snap{Bid: 5}, false},
		"fires":         {begun(), api.Snap{Ask: 5}, false},
		"faults 11":     {begun(), api.Snap{Last: 5}, true},
		"halts":         {begun(), api.Snap{Now: 6}, true},
		"nothing":       {begun(), api.Snap{Now: 5}, true},
	}
}

// Actions, modes and registers that come out are their owner's, to their room's end, in whatever the turn came to: who writes into one changes no other, nor what is told later; nor does who writes into what was handed in.
func TestWhatComesOutIsNew(t *testing.T) {
	s, all := turnsOfEach()
	for kind, x := range all {
		want, wantNext, no := modelTurn(s, x.m, x.w, x.granted)
		if outcome(want, no) != kind {
			t.Fatalf("%s is %s", kind, outcome(want, no))
		}
		var firings []api.Firing
		var modes []api.Mode
		for range 4 {
			mine := api.Mode{State: x.m.State, Regs: slices.Clone(x.m.Regs)}
			f, next, no := mean.Turn(s, mine, x.w, x.granted)
			if !sameFiring(f, want) || !sameMode(next, wantNext) || no != api.OK {
				t.Fatal(f, next, no)
			}
			firings, modes = append(firings, f), append(modes, next)
			spoil(mine.Regs, -7)
		}
		for k := range firings {
			if !sameFiring(firings[k], want) || !sameMode(modes[k], wantNext) {
				t.Errorf("%s: %+v, %v has changed", kind, firings[k], modes[k])
			}
			spoil(firings[k].Actions, api.Action{Qty: -1})
			if !sameMode(modes[k], wantNext) {
				t.Errorf("%s: %v has changed", kind, modes[k])
			}
			spoil(modes[k].Regs, -1)
			expectTurn(t, s, x.m, x.w, x.granted, want, wantNext)
		}
	}
}

func TestModesOfStartAreNew(t *testing.T) {
	s := full()
	var all []api.Mode
	for range 4 {
		m, no := mean.Start(s)
		if no != api.OK {
			t.Fatal(no)
		}
		all = append(all, m)
	}
	for _, m := range all {
		if !sameMode(m, begun()) {
			t.Errorf("%v has changed", m)
		}
		spoil(m.Regs, -9)
		expectStart(t, s, begun().Regs...)
	}
}

// Rules, things done, states, slots and kids that lie behind a list's length are not read.
func TestWhatLiesBehindListsIsNotRead(t *testing.T) {
	s := full(rule(falsely(), halt()), rule(truly(), cancel("o"), halt()), rule(truly(), halt()))
	s.States[0].Rules = s.States[0].Rules[:1]
	expectStays(t, s, begun(), seen(), nothing())
	s.States[0].Rules = s.States[0].Rules[:2]
	s.States[0].Rules[1].Dos = s.States[0].Rules[1].Dos[:1]
	expectFires(t, s, begun(), seen(), fires(1, api.Action{Act: api.ActCancel, Slot: 1}), begun())
	s.States = s.States[:1]
	expectNoTurn(t, s, mode(1, begun().Regs...), seen(), noMode)
	s.Slots = s.Slots[:0]
	expectNoTurn(t, s, begun(), seen(), none)
	kids := []api.Node{num(4), faulty(zero), num(5)}
	expectValue(t, full(), unary(api.OperNeg, kids[:1]...), begun(), seen(), -4)
	leaf := num(1)
	leaf.Kids = kids[:0]
	expectValue(t, full(), leaf, begun(), seen(), 1)
}

// A list that is nil and one that is empty are the same thing.
func TestEmptyListsAreNone(t *testing.T) {
	s := smallest()
	s.Regs, s.Slots, s.States[0].Rules = []api.Reg{}, []api.Slot{}, []api.Rule{}
	for _, m := range []api.Mode{{}, {Regs: []int64{}}, {Regs: make([]int64, 0, 3)}} {
		expectStays(t, s, m, seen(), nothing())
		expectStays(t, smallest(), m, seen(), nothing())
		expectValue(t, s, num(2), m, seen(), 2)
	}
	expectStart(t, s)
	s.States = []api.State{}
	expectNoStart(t, s, wrongForm)
	n := reg("i")
	n.Kids = []api.Node{}
	expectValue(t, full(), n, begun(), seen(), 1)
	// Also in what is done: a part that is not named is one without kids.
	d := cancel("o")
	d.Side.Kids, d.Qty.Kids, d.Price.Kids, d.Value.Kids = []api.Node{}, []api.Node{}, []api.Node{}, []api.Node{}
	expectFires(t, doing(d), begun(), seen(), fires(0, api.Action{Act: api.ActCancel, Slot: 1}), begun())
}

// Calls know nothing of one another: asked in any order, again, and at the same time, they say the same.
func TestCallsKnowNothingOfOneAnother(t *testing.T) {
	s, turns := turnsOfEach()
	all := func() {
		for _, x := range turns {
			want, next, _ := modelTurn(s, x.m, x.w, x.granted)
			expectTurn(t, s, x.m, x.w, x.granted, want, next)
		}
		expectStart(t, s, begun().Regs...)
		expectNoValue(t, s, faulty(over), begun(), api.Snap{}, over)
		expectValue(t, s, expr(t, "i + 1"), begun(), api.Snap{}, 2)
		expectNoTurn(t, s, api.Mode{}, api.Snap{}, noMode)
		expectNoStart(t, api.Strategy{}, wrongForm)
	}
	all()
	all()
	done := make(chan bool)
	for range 4 {
		go func() {
			for range 50 {
				all()
			}
			done <- true
		}()
	}
	for range 4 {
		<-done
	}
}
