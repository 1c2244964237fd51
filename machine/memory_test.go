package machine_test

import (
	"reflect"
	"slices"
	"testing"

	"tripwire/api"
	"tripwire/machine"
)

// expectKept tells whether what was handed in is still what it was, and what lies behind its lists, too: was is a copy of it, as copied makes it.
func expectKept[T any](t *testing.T, is, was T) {
	t.Helper()
	if !reflect.DeepEqual(is, was) {
		t.Errorf("%s was changed; it was %s", short(is), short(was))
	}
	lists(elem(&is), func(v reflect.Value) {
		if v.Cap() == v.Len() {
			return
		}
		if !reflect.DeepEqual(v.Slice(0, v.Len()+1).Index(v.Len()).Interface(), behind(v.Type().Elem()).Interface()) {
			t.Errorf("what lies behind a list of %s was changed", short(is))
		}
	})
}

// expectApart tells whether no two lists of these things, to the ends of their rooms, share any memory.
func expectApart(t *testing.T, things ...any) {
	t.Helper()
	type room struct{ from, to uintptr }
	var all []room
	for _, x := range things {
		lists(elem(x), func(v reflect.Value) {
			if v.Cap() == 0 {
				return
			}
			mine := room{v.Pointer(), v.Pointer() + uintptr(v.Cap())*v.Type().Elem().Size()}
			for _, other := range all {
				if mine.from < other.to && other.from < mine.to {
					t.Errorf("two lists share memory: one is %s", short(v.Interface()))
				}
			}
			all = append(all, mine)
		})
	}
}

// spoil writes into all of a list's room.
func spoil[T any](l []T, with T) {
	room := l[:cap(l)]
	for k := range room {
		room[k] = with
	}
}

// What is handed in is as it was behind each call, whether it is taken or refused, and also when what came out has been written into; what lies behind its lists is neither read nor changed.
func TestWhatIsHandedInStays(t *testing.T) {
	all := drawnTables(10000000, 500)
	for _, x := range refusedOfEach() {
		all = append(all, x.x)
	}
	reached := map[string]int{}
	for k, x := range all {
		d := drawer{below: draw(uint64(10500000 + k))}
		is, was := copied(x), copied(x)
		m, no := machine.Start(is)
		expectKept(t, is, was)
		if m2, no2 := machine.Start(x); !sameMode(m, m2) || no != no2 {
			t.Errorf("%v, %d; of a copy %v, %d", m2, no2, m, no)
		}
		spoil(m.Regs, -5)
		expectKept(t, is, was)
		for range 5 {
			m, w, granted := d.mode(x, 20), d.snap(20), d.below(2) == 0
			mine, wasMode := copied(m), copied(m)
			f, next, no := machine.Turn(is, mine, w, granted)
			reached[outcome(f, no)]++
			expectApart(t, &f, &next, &is, &mine)
			f2, next2, no2 := machine.Turn(x, m, w, granted)
			if !sameFiring(f, f2) || !sameMode(next, next2) || no != no2 {
				t.Errorf("%+v, %v, %d; of a copy %+v, %v, %d", f2, next2, no2, f, next, no)
			}
			expectApart(t, &f, &next, &f2, &next2)
			spoil(f.Actions, api.Action{Slot: -5})
			spoil(next.Regs, -5)
			expectKept(t, is, was)
			expectKept(t, mine, wasMode)
			s := d.anySpan(x)
			expectValue(t, is, s, mine, w, modelValue(x, s, m, w))
			expectKept(t, is, was)
			expectKept(t, mine, wasMode)
		}
	}
	expectReached(t, reached, 5, "nothing", "fires", "fires actions", "halts", "halts actions", "refused", "faults 10", "faults 11", "faults 170", "faults 201", "error 200", "error 100", "error 190", "error 191", "error 192")
}

// asked is what a turn is asked with.
type asked struct {
	m       api.Mode
	w       api.Snap
	granted bool
}

// turnsOfEach are turns that come to each kind of thing, in one table.
func turnsOfEach() (api.Table, map[string]asked) {
	x := laid([]rule{
		when("has 1", submit(api.Limit, 1, "num 1", "num 2", "field 1"), set(0, "num 9"), cancel(2)),
		when("has 2", set(1, "num 2"), goTo(1)),
		when("has 3", set(0, "num 8"), set(0, "num 1, num 0, div")),
		when("field 5, num 5, gt", halt()),
		when("field 6", set(0, "num 4"), market(0, "reg 0", "num 1")),
	}, nil)
	return x, map[string]asked{
		"fires actions": {begun(), api.Snap{Bid: 5}, true},
		"refused":       {begun(), api.Snap{Bid: 5}, false},
		"fires":         {begun(), api.Snap{Ask: 5}, false},
		"faults 11":     {begun(), api.Snap{Last: 5}, true},
		"halts":         {begun(), api.Snap{Now: 6}, true},
		"nothing":       {begun(), api.Snap{Now: 5}, true},
		"faults 201":    {begun(), api.Snap{Open: 5}, true},
	}
}

// Actions, modes and registers that come out are their owner's, to their room's end, in whatever the turn came to: who writes into one changes no other, nor what is told later; nor does who writes into what was handed in.
func TestWhatComesOutIsNew(t *testing.T) {
	x, all := turnsOfEach()
	for kind, a := range all {
		want, wantNext, no := modelTurn(x, a.m, a.w, a.granted)
		if outcome(want, no) != kind {
			t.Fatalf("%s is %s", kind, outcome(want, no))
		}
		var firings []api.Firing
		var modes []api.Mode
		for range 4 {
			mine := api.Mode{State: a.m.State, Regs: slices.Clone(a.m.Regs)}
			f, next, no := machine.Turn(x, mine, a.w, a.granted)
			if !sameFiring(f, want) || !sameMode(next, wantNext) || no != api.OK {
				t.Fatal(f, next, no)
			}
			firings, modes = append(firings, f), append(modes, next)
			expectApart(t, &firings, &modes, &mine, &x)
			spoil(mine.Regs, -7)
		}
		for k := range firings {
			if !sameFiring(firings[k], want) || !sameMode(modes[k], wantNext) {
				t.Errorf("%s: %+v, %v has changed", kind, firings[k], modes[k])
			}
			spoil(firings[k].Actions, api.Action{Qty: -1})
			if !sameMode(modes[k], wantNext) {
				t.Errorf("%s: %v has changed", kind, modes[k])
			}
			spoil(modes[k].Regs, -1)
			expectTurn(t, x, a.m, a.w, a.granted, want, wantNext)
		}
	}
}

func TestModesOfStartAreNew(t *testing.T) {
	x := doing(halt())
	var all []api.Mode
	for range 4 {
		m, no := machine.Start(x)
		if no != api.OK {
			t.Fatal(no)
		}
		all = append(all, m)
	}
	expectApart(t, &all, &x)
	for _, m := range all {
		if !sameMode(m, begun()) {
			t.Errorf("%v has changed", m)
		}
		spoil(m.Regs, -9)
		expectStart(t, x, 5, -6, 7)
	}
}

// Parts that lie behind a list's length are not read, be they such that may be or not.
func TestWhatLiesBehindListsIsNotRead(t *testing.T) {
	x := laid([]rule{when("num 0", halt()), when("num 1", cancel(1), halt()), when("num 1", halt())}, []rule{when("num 1", halt())})
	x.Code, x.States = x.Code[:2], x.States[:1]
	x.States[0] = x.States[0][:2]
	x.States[0][1].Rows = x.States[0][1].Rows[:1]
	expectFires(t, x, begun(), seen(), fires(2, 1, api.Action{Act: api.ActCancel, Slot: 1}), begun())
	expectNoTurn(t, x, mode(1, 5, -6, 7), seen(), noMode)
	expectNoValue(t, x, span(2, 3), begun(), seen(), noSpan)
	x.States[0], x.Code = x.States[0][:1], x.Code[:1]
	expectStays(t, x, begun(), seen(), nothing(1))
	expectNoValue(t, x, span(1, 2), begun(), seen(), noSpan)
	x.Consts = x.Consts[:0]
	expectNoTurn(t, x, begun(), seen(), wrongCode)
	x = asking("reg 0")
	x.Regs = x.Regs[:1]
	expectStart(t, x, 5)
	expectValue(t, x, span(0, 1), mode(0, 4), seen(), result{4, 1, api.OK})
	regs := []int64{4, 5, 6}
	expectValue(t, x, span(0, 1), mode(0, regs[:1]...), seen(), result{4, 1, api.OK})
	expectNoValue(t, x, span(0, 1), mode(0, regs...), seen(), noMode)
	// A list without elements of which there is room for some.
	x = smallest()
	x.States[0], x.Regs = make([]api.Guard, 0, 3), make([]int64, 0, 3)
	expectStays(t, x, api.Mode{Regs: make([]int64, 0, 2)}, seen(), nothing(0))
}

// A list that is nil and one that is empty are the same thing.
func TestEmptyListsAreNone(t *testing.T) {
	x := smallest()
	x.Regs, x.Consts, x.Code, x.States[0] = []int64{}, []int64{}, []api.Instr{}, []api.Guard{}
	for _, y := range []api.Table{x, smallest()} {
		expectStart(t, y)
		for _, m := range []api.Mode{{}, {Regs: []int64{}}} {
			expectStays(t, y, m, seen(), nothing(0))
			expectNoValue(t, y, api.Span{}, m, seen(), noSpan)
		}
	}
	x.States = [][]api.Guard{}
	expectNoStart(t, x, wrongForm)
	expectNoTurn(t, x, api.Mode{}, seen(), wrongForm)
	y := doing(halt())
	y.States[0][0].Rows = []api.Row{}
	expectNoTurn(t, y, begun(), seen(), wrongForm)
}

// Calls know nothing of one another: asked in any order, again, and at the same time, they say the same.
func TestCallsKnowNothingOfOneAnother(t *testing.T) {
	x, turns := turnsOfEach()
	all := func() {
		for _, a := range turns {
			want, next, _ := modelTurn(x, a.m, a.w, a.granted)
			expectTurn(t, x, a.m, a.w, a.granted, want, next)
		}
		expectStart(t, x, 5, -6, 7)
		expectValue(t, x, x.States[0][2].Rows[1].Value, begun(), api.Snap{}, result{0, 3, zero})
		expectValue(t, x, x.States[0][3].When, begun(), api.Snap{Now: 6}, result{1, 3, api.OK})
		expectNoTurn(t, x, api.Mode{}, api.Snap{}, noMode)
		expectNoStart(t, api.Table{}, wrongForm)
	}
	all()
	all()
	done := make(chan bool)
	for range 4 {
		go func() {
			for range 50 {
				all()
			}
			done <- true
		}()
	}
	for range 4 {
		<-done
	}
}
