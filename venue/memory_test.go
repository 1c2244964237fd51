package venue_test

import (
	"reflect"
	"testing"

	"tripwire/api"
	"tripwire/venue"
)

// given are all lists that a venue hands out at a time.
type given struct {
	Reply      api.Reply
	Strategies []int
	Stands     []api.Standing
	Book       api.Reply
	Status     api.Reply
}

func handedOut(v *venue.Venue, r api.Reply) *given {
	g := &given{Reply: r, Strategies: v.Strategies(), Book: v.Do(book())}
	for _, id := range g.Strategies {
		s, _ := v.Stand(id)
		g.Stands = append(g.Stands, s)
		g.Status = v.Do(status(id))
	}
	return g
}

// spoil writes into all lists of a thing, to their rooms' ends.
func spoil(x any) {
	lists(reflect.ValueOf(x).Elem(), func(l reflect.Value) {
		room := l.Slice(0, l.Cap())
		for i := range room.Len() {
			numbers(room.Index(i), 77)
		}
	})
}

// numbers lays a number into each that a thing has, but for its lists.
func numbers(v reflect.Value, n int64) {
	switch {
	case v.Kind() == reflect.Struct:
		for i := range v.NumField() {
			numbers(v.Field(i), n)
		}
	case v.CanInt():
		v.SetInt(n)
	case v.CanUint():
		v.SetUint(uint64(n))
	}
}

// expectApart tells whether no two lists of these things, to the ends of their rooms, share any memory.
func expectApart(t *testing.T, things []*given) {
	t.Helper()
	type room struct{ from, to uintptr }
	var all []room
	for _, x := range things {
		lists(reflect.ValueOf(x).Elem(), func(l reflect.Value) {
			if l.Cap() == 0 {
				return
			}
			mine := room{l.Pointer(), l.Pointer() + uintptr(l.Cap())*l.Type().Elem().Size()}
			for _, other := range all {
				if mine.from < other.to && other.from < mine.to {
					t.Fatalf("two lists share memory: one is %+v", l.Interface())
				}
			}
			all = append(all, mine)
		})
	}
}

// What came out is its owner's (R2): who writes into it, to the ends of its rooms, changes nothing of what the venue says later.
func TestWhatComesOutMayBeChanged(t *testing.T) {
	for seed := range uint64(60) {
		s := scripted(t, seed+1000000, 80)
		v := made(t, s.c)
		for k := range s.commands {
			r := v.Do(s.commands[k])
			if !same(r, s.replies[k]) {
				t.Fatalf("%+v is %+v; of a venue whose answers nobody wrote into %+v", s.commands[k], r, s.replies[k])
			}
			spoil(handedOut(v, r))
		}
		if !same(seen(v), s.behind) {
			t.Fatalf("%+v; want %+v", seen(v), s.behind)
		}
	}
}

// No two lists that come out share memory, and none changes behind its call.
func TestWhatComesOutIsNew(t *testing.T) {
	for seed := range uint64(6) {
		s := scripted(t, seed+1100000, 60)
		v := made(t, s.c)
		var all []*given
		for _, c := range s.commands {
			all = append(all, handedOut(v, v.Do(c)))
		}
		expectApart(t, all)
		for k, g := range all {
			if !same(g.Reply, s.replies[k]) {
				t.Errorf("a reply has changed to %+v; it was %+v", g.Reply, s.replies[k])
			}
		}
	}
}

// Written out: the slots and registers of a standing, the told things and orders of a reply, the numbers of strategies.
func TestStandingsAreNew(t *testing.T) {
	v := running(t, plain(), hunter)
	r := done(t, v, sell(2, 10, 5))
	want := api.Standing{ID: 1, Client: 1, Status: api.Running, Regs: []int64{1}, Slots: []int{2}, Snap: api.Snap{Ask: 10, Last: 10, Volume: 2}}
	for range 3 {
		s, _ := v.Stand(1)
		s.Regs[0], s.Slots[0] = -1, -1
		x := v.Do(status(1)).Stand
		x.Regs[0], x.Slots[0] = -2, -2
		v.Strategies()[0] = 9
		v.Do(book()).Orders[0] = api.Order{}
		r.Told[0] = api.Told{}
		expectStand(t, v, want)
		expectStrategies(t, v, 1)
		expectOrders(t, v, order(1, 2, api.Sell, 10, 3))
	}
	// Nor are they those with which it begins again.
	done(t, v, stop(1, 1))
	done(t, v, cancel(2, 1))
	done(t, v, start(1, 1))
	s, _ := v.Stand(1)
	s.Regs[0], s.Slots[0] = 5, 5
	expectStand(t, v, api.Standing{ID: 1, Client: 1, Status: api.Running, Regs: []int64{0}, Slots: []int{0}, Snap: api.Snap{Last: 10, Volume: 2}})
}

// The errors of an upload are new, too.
func TestFailuresAreNew(t *testing.T) {
	v := made(t, plain())
	for range 3 {
		_, err := v.Upload(1, "strategy")
		f := err.(*api.Failure)
		below := f.Err.(*api.Failure)
		if f.Call != "upload" || f.At != 8 || below.Call != "Source" || below.At != 8 {
			t.Error(err)
		}
		f.Call, f.At, below.Call, below.At = "", -1, "", -1
	}
}
