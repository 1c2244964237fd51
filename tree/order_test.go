package tree_test

import (
	"reflect"
	"slices"
	"testing"

	"tripwire/api"
	"tripwire/tree"
)

// setPlaces sets all places of a tree.
func setPlaces(v reflect.Value, at int) {
	leaves(v, "", func(name string, v reflect.Value) {
		if name == "At" {
			v.SetInt(int64(at))
		}
	})
}

// fault is a part of a strategy that is made wrong, and what is told of it.
type fault struct {
	what string
	turn func(s *api.Strategy)
	no   api.Errno
}

var deepNot = grown(num(1), 25, layers["not"])

// faults are in the order of a strategy's parts. No one of them takes away what another one turns.
var faults = []fault{
	{"Name", func(s *api.Strategy) { s.Name = "bid" }, wrongForm},
	{"how many registers", func(s *api.Strategy) { s.Regs = append(s.Regs, make([]api.Reg, 13)...) }, tooMany},
	{"Regs[0].Name", func(s *api.Strategy) { s.Regs[0].Name = "" }, wrongForm},
	{"Regs[0].Type", func(s *api.Strategy) { s.Regs[0].Type = 7 }, wrongForm},
	{"Regs[0].Init", func(s *api.Strategy) { s.Regs[0].Init = deepNot }, wrongForm},
	{"Regs[1].Name", func(s *api.Strategy) { s.Regs[1].Name = "1" }, wrongForm},
	{"how many slots", func(s *api.Strategy) { s.Slots = append(s.Slots, make([]api.Slot, 5)...) }, tooMany},
	{"Slots[0].Name", func(s *api.Strategy) { s.Slots[0].Name = "" }, wrongForm},
	{"Slots[1].Name", func(s *api.Strategy) { s.Slots[1].Name = "as" }, wrongForm},
	{"how many states", func(s *api.Strategy) { s.States = append(s.States, make([]api.State, 13)...) }, tooMany},
	{"States[0].Name", func(s *api.Strategy) { s.States[0].Name = "" }, wrongForm},
	{"how many rules", func(s *api.Strategy) { s.States[0].Rules = append(s.States[0].Rules, make([]api.Rule, 13)...) }, tooMany},
	{"When", func(s *api.Strategy) { rule(s).When = deepNot }, tooDeep},
	{"how many things done", func(s *api.Strategy) { rule(s).Dos = append(rule(s).Dos, make([]api.Do, 9)...) }, tooMany},
	{"Dos[0].Order", func(s *api.Strategy) { rule(s).Dos[0].Order = 6 }, wrongForm},
	{"Dos[0].Name", func(s *api.Strategy) { rule(s).Dos[0].Name = "bid" }, wrongForm},
	{"Dos[0].Side", func(s *api.Strategy) { rule(s).Dos[0].Side = deepNot }, tooDeep},
	{"Dos[0].Qty", func(s *api.Strategy) { rule(s).Dos[0].Qty = num(-1) }, wrongForm},
	{"Dos[0].Price", func(s *api.Strategy) { rule(s).Dos[0].Price = deepNot }, tooDeep},
	{"Dos[0].Value", func(s *api.Strategy) { rule(s).Dos[0].Value = num(1) }, wrongForm},
	{"Dos[1].Side", func(s *api.Strategy) { rule(s).Dos[1].Side = deepNot }, tooDeep},
	{"Dos[2].Kind", func(s *api.Strategy) { rule(s).Dos[2].Kind = 7 }, wrongForm},
	{"Dos[2].Qty", func(s *api.Strategy) { rule(s).Dos[2].Qty = deepNot }, tooDeep},
	{"Dos[2].Price", func(s *api.Strategy) { rule(s).Dos[2].Price = api.Node{} }, wrongForm},
	{"Dos[4].Name", func(s *api.Strategy) { rule(s).Dos[4].Name = "" }, wrongForm},
	{"Dos[4].Value", func(s *api.Strategy) { rule(s).Dos[4].Value = deepNot }, tooDeep},
	{"Dos[6].Name", func(s *api.Strategy) { rule(s).Dos[6].Name = "a" }, wrongForm},
	{"Rules[1].When", func(s *api.Strategy) { s.States[0].Rules[1].When = deepNot }, tooDeep},
	{"States[1].Name", func(s *api.Strategy) { s.States[1].Name = "state" }, wrongForm},
	{"States[2].Rules[0].When", func(s *api.Strategy) { s.States[2].Rules[0].When = deepNot }, tooDeep},
	{"States[2].Rules[0].Dos", func(s *api.Strategy) { s.States[2].Rules[0].Dos = nil }, wrongForm},
}

func expectFirst(t *testing.T, which ...int) {
	t.Helper()
	s := copied(whole())
	for _, i := range which {
		faults[i].turn(&s)
	}
	first := faults[slices.Min(which)]
	if no := tree.Check(s); no != first.no {
		t.Errorf("%s is told %d ahead of %v; want %d", first.what, no, which, first.no)
	}
}

func TestOneFault(t *testing.T) {
	for i := range faults {
		expectFirst(t, i)
	}
}

func TestOfTwoFaultsTheFirst(t *testing.T) {
	for i := range faults {
		for j := range i {
			expectFirst(t, i, j)
			expectFirst(t, j, i)
		}
	}
}

func TestOfManyFaultsTheFirst(t *testing.T) {
	below := draw(3)
	for range 500 {
		var which []int
		for range 3 + below(6) {
			which = append(which, below(len(faults)))
		}
		slices.Sort(which)
		expectFirst(t, slices.Compact(which)...)
	}
	for from := range faults {
		var which []int
		for i := from; i < len(faults); i++ {
			which = append(which, i)
		}
		expectFirst(t, which...)
	}
}

// A kind that is none is told ahead of all else of the same thing; fields are looked at in their own order, whatever the kind.
func TestTheOrderWithinADeed(t *testing.T) {
	for _, x := range []struct {
		d    api.Do
		want api.Errno
	}{
		{api.Do{Kind: 0, Qty: deepNot}, wrongForm},
		{api.Do{Kind: api.DoSubmit, Order: 0, Side: deepNot, Qty: deepNot}, wrongForm},
		{api.Do{Kind: api.DoSubmit, Order: 1, Name: "bid", Side: deepNot}, wrongForm},
		{api.Do{Kind: api.DoSubmit, Order: 1, Side: deepNot}, tooDeep},
		{api.Do{Kind: api.DoSubmit, Order: 1, Side: num(1), Qty: deepNot}, tooDeep},
		{api.Do{Kind: api.DoSubmit, Order: 1, Qty: deepNot}, wrongForm},
		{api.Do{Kind: api.DoSubmit, Order: 2, Side: num(1), Qty: deepNot, Price: num(1)}, tooDeep},
		{api.Do{Kind: api.DoSubmit, Order: 1, Side: num(1), Qty: num(1), Price: deepNot, Value: num(1)}, tooDeep},
		{api.Do{Kind: api.DoAmend, Qty: deepNot, Price: deepNot}, wrongForm},
		{api.Do{Kind: api.DoAmend, Name: "o", Side: num(1), Qty: deepNot}, wrongForm},
		{api.Do{Kind: api.DoAmend, Name: "o", Qty: deepNot}, tooDeep},
		{api.Do{Kind: api.DoAmend, Name: "o", Price: deepNot}, wrongForm},
		{api.Do{Kind: api.DoAmend, Name: "o", Order: 1, Qty: deepNot, Price: deepNot}, wrongForm},
		{api.Do{Kind: api.DoSet, Name: "n", Value: deepNot}, tooDeep},
		{api.Do{Kind: api.DoSet, Value: deepNot}, wrongForm},
		{api.Do{Kind: api.DoSet, Name: "n", Price: num(1), Value: deepNot}, wrongForm},
	} {
		expectCheck(t, doing(x.d), x.want)
	}
}
