package eval_test

import (
	"reflect"
	"slices"
	"testing"

	"tripwire/api"
	"tripwire/eval"
)

// expectKept tells whether what was handed in is still what it was, and what lies behind its lists, too: was is a copy of it, as copied makes it.
func expectKept[T any](t *testing.T, is, was T) {
	t.Helper()
	if !reflect.DeepEqual(is, was) {
		t.Errorf("%s was changed; it was %s", short(is), short(was))
	}
	lists(elem(&is), func(v reflect.Value) {
		if v.Cap() == v.Len() {
			return
		}
		if !reflect.DeepEqual(v.Slice(0, v.Len()+1).Index(v.Len()).Interface(), behind(v.Type().Elem()).Interface()) {
			t.Errorf("what lies behind a list of %s was changed", short(is))
		}
	})
}

// expectApart tells whether no two lists of these things, to the ends of their rooms, share any memory.
func expectApart(t *testing.T, things ...any) {
	t.Helper()
	type room struct{ from, to uintptr }
	var all []room
	for _, x := range things {
		lists(elem(x), func(v reflect.Value) {
			if v.Cap() == 0 {
				return
			}
			mine := room{v.Pointer(), v.Pointer() + uintptr(v.Cap())*v.Type().Elem().Size()}
			for _, other := range all {
				if mine.from < other.to && other.from < mine.to {
					t.Errorf("two lists share memory: one is %s", short(v.Interface()))
				}
			}
			all = append(all, mine)
		})
	}
}

// spoil writes into all of a list's room.
func spoil[T any](l []T, with T) {
	room := l[:cap(l)]
	for k := range room {
		room[k] = with
	}
}

// spoilTable writes into all of a table's lists, to their rooms' ends.
func spoilTable(x *api.Table) {
	for _, guards := range x.States {
		for _, g := range guards {
			spoil(g.Rows, api.Row{Kind: 77, Index: 77, Value: span(70, 77)})
		}
		spoil(guards, api.Guard{When: span(70, 77), Fields: 77, Regs: 77})
	}
	spoil(x.States, nil)
	spoil(x.Regs, 77)
	spoil(x.Consts, 77)
	spoil(x.Code, api.Instr{Kind: 77, A: 77})
}

// The table, the snapshot and the batches that are handed in stay as they were, whatever comes of them, taken or refused.
func TestWhatIsHandedInStays(t *testing.T) {
	all := drawnTables(10000000, 400)
	for _, x := range refusedOfEach() {
		all = append(all, x.x)
	}
	reached := map[string]int{}
	for k, x := range all {
		d := drawer{below: draw(uint64(10500000 + k))}
		is, was := copied(x), copied(x)
		e, no := eval.New(is, api.Snap{Bid: 4})
		expectKept(t, is, was)
		if no != api.OK {
			reached[no.Error()]++
			continue
		}
		r := &runner{Eval: e}
		for range 12 {
			if status, _ := r.Status(); status != api.Running {
				r.Start()
			}
			batch := d.batch(r.Snap(), 20)
			mine, wasMine := copied(batch), copied(batch)
			f := r.turn(d.below(2) == 0, mine...)
			reached[outcome(f, api.OK)]++
			expectKept(t, mine, wasMine)
			r.Fold(mine...)
			expectKept(t, mine, wasMine)
			spoil(f.Actions, api.Action{Slot: -5})
			spoil(r.Mode().Regs, -5)
			for _, l := range r.Caches() {
				spoil(l, api.Cached{Value: -5})
			}
			expectKept(t, mine, wasMine)
			expectKept(t, is, was)
		}
	}
	expectReached(t, reached, 5, "nothing", "fires", "fires actions", "halts", "refused", "faults 100", "faults 11", "faults 170", "faults 201", "error 190", "error 191", "error 192")
}

// What is handed in is not kept: who changes the table or the batch behind the call changes nothing of what the evaluator does.
func TestWhatIsHandedInIsNotKept(t *testing.T) {
	for k, x := range drawnTables(11000000, 400) {
		mine := copied(x)
		e, no := eval.New(mine, api.Snap{})
		if no != api.OK {
			continue
		}
		spoilTable(&mine)
		r := &runner{Eval: e}
		o, _ := modelNew(x, api.Snap{})
		p := &pair{r, o}
		p.expectAlike(t)
		d := drawer{below: draw(uint64(11500000 + k))}
		for range 12 {
			if o.status != api.Running {
				p.start()
			}
			batch := d.batch(o.w, 60)
			mine := slices.Clone(batch)
			f := r.turn(k%3 > 0, mine...)
			spoil(mine, bid(77))
			want, _ := o.turn(batch, k%3 > 0)
			if !sameFiring(f, want) {
				t.Fatalf("%s: %+v; want %+v", short(x), f, want)
			}
			p.expectAlike(t)
			mine = slices.Clone(batch)
			if no, want := r.Fold(mine...), o.fold(batch); no != want {
				t.Fatalf("%d; want %d", no, want)
			}
			spoil(mine, api.Feed{})
			p.expectAlike(t)
		}
	}
}

// answers are all lists that an evaluator hands out.
type answers struct {
	Firing api.Firing
	Mode   api.Mode
	Caches [][]api.Cached
}

// Modes, actions and what is known come out as their owner's, to their rooms' ends: later calls do not change them; who writes into one changes no other one, nor what is told or done later.
func TestWhatComesOutIsNew(t *testing.T) {
	x := laid(
		[]rule{when("has 1", submit(api.Limit, 1, "num 1", "num 2", "field 1"), set(0, "reg 0, num 1, add"), cancel(2)), when("num 0", halt()), when("reg 0, num 0, mul", goTo(2))},
		nil,
		[]rule{when("num 1", halt())},
	)
	r, o := started(t, x, api.Snap{}), started(t, x, api.Snap{})
	var all, were []answers
	calls := func(r *runner, n int64, told func(f api.Firing)) {
		told(r.turn(true, bid(n)))
		told(r.turn(false))
		told(r.turn(true))
		told(r.turn(true, bid(0)))
		r.Fold(bid(n))
		told(r.turn(true, bid(0)))
	}
	for n := int64(1); n < 8; n++ {
		calls(r, n, func(f api.Firing) {
			a := answers{f, r.Mode(), r.Caches()}
			all, were = append(all, a), append(were, copied(a))
		})
		calls(o, n, func(api.Firing) {})
	}
	expectApart(t, &all, &x)
	for k, a := range all {
		if !reflect.DeepEqual(a, were[k]) {
			t.Errorf("%+v has changed; it was %+v", a, were[k])
		}
	}
	for _, a := range all {
		spoil(a.Firing.Actions, api.Action{Qty: -1})
		spoil(a.Mode.Regs, -1)
		for _, l := range a.Caches {
			spoil(l, api.Cached{Clean: true, Value: 9})
		}
		spoil(a.Caches, nil)
	}
	expectStanding(t, r, o.standing())
	var mine, others []api.Firing
	calls(r, 5, func(f api.Firing) { mine = append(mine, f) })
	calls(o, 5, func(f api.Firing) { others = append(others, f) })
	if !slices.EqualFunc(mine, others, sameFiring) {
		t.Errorf("%+v; of one whose answers nobody wrote into %+v", mine, others)
	}
	expectStanding(t, r, o.standing())
}

// The registers that a mode tells are not those that Start begins with, nor of the table that was handed in.
func TestModesAreNew(t *testing.T) {
	x := exampleU()
	r := made(t, x, api.Snap{})
	for range 3 {
		m := r.Mode()
		expectApart(t, &m, &x)
		spoil(m.Regs, 77)
		expectMode(t, r, mode(0, -2))
		r.Start()
		m = r.Mode()
		spoil(m.Regs, 77)
		expectMode(t, r, mode(0, -2))
		r.turn(true, bid(3))
		spoil(r.Mode().Regs, 77)
		expectMode(t, r, mode(1, -1))
		r.Start()
		expectMode(t, r, mode(0, -2))
		r.Stop()
	}
}

// Parts that lie behind a list's length are not read, be they such that may be or not.
func TestWhatLiesBehindListsIsNotRead(t *testing.T) {
	x := laid([]rule{when("num 0", halt()), when("num 1", cancel(1), halt()), when("num 1", halt())}, []rule{when("num 1", halt())})
	x.Code, x.States = x.Code[:2], x.States[:1]
	x.States[0] = x.States[0][:2]
	x.States[0][1].Rows = x.States[0][1].Rows[:1]
	r := started(t, x, api.Snap{})
	expectTurn(t, r, true, fires(2, 1, api.Action{Act: api.ActCancel, Slot: 1}))
	expectKnows(t, r, "0 1")
	feeds := []api.Feed{bid(3), bid(-1), bid(7)}
	expectTurn(t, r, false, isRefused(0, 1), feeds[:1]...)
	expectFold(t, r, api.OK, feeds[:0]...)
	if w := r.Snap(); w.Bid != 3 {
		t.Error(w)
	}
	x = asking("reg 0")
	x.Regs = x.Regs[:1]
	expectMode(t, made(t, x, api.Snap{}), mode(0, 5))
}

// A list that is nil and one that is empty are the same thing.
func TestEmptyListsAreNone(t *testing.T) {
	x := smallest()
	x.Regs, x.Consts, x.Code, x.States[0] = []int64{}, []int64{}, []api.Instr{}, []api.Guard{}
	for _, y := range []api.Table{x, smallest()} {
		r := started(t, y, api.Snap{})
		expectTurn(t, r, true, nothing(0))
		expectTurn(t, r, true, nothing(0), []api.Feed{}...)
		expectFold(t, r, api.OK, []api.Feed{}...)
		expectStanding(t, r, standing{status: api.Running})
		if l := r.Caches(); len(l) != 1 || len(l[0]) != 0 {
			t.Error(l)
		}
	}
	x.States = [][]api.Guard{}
	expectNoNew(t, x, api.Snap{}, wrongForm)
}
