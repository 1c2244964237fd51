package types_test

import (
	"testing"

	"tripwire/api"
)

// Registers, slots and states: no two of one kind have one name; one of each kind may.

func TestEveryRegisterTwice(t *testing.T) {
	for first := range 6 {
		for second := first + 1; second < 6; second++ {
			s := full()
			s.Regs[second].Name = s.Regs[first].Name
			expectWrong(t, s, twice, 101+second)
			// With the very same type and beginning, too.
			s = full()
			s.Regs[second] = s.Regs[first]
			s.Regs[second].At = 55
			expectWrong(t, s, twice, 55)
		}
	}
	s := full()
	s.Regs = append(s.Regs, s.Regs[2], s.Regs[2])
	s.Regs[6].At, s.Regs[7].At = 66, 67
	expectWrong(t, s, twice, 66)
}

func TestEverySlotAndStateTwice(t *testing.T) {
	for count := 2; count <= 12; count++ {
		for first := range count {
			for second := first + 1; second < count; second++ {
				s := full()
				s.States = s.States[:0]
				for k := range count {
					s.States = append(s.States, api.State{Name: "a" + string(rune('a'+k)), At: 200 + k})
				}
				expectFine(t, s)
				s.States[second].Name = s.States[first].Name
				expectWrong(t, s, twice, 200+second)
				if count > 4 {
					continue
				}
				s = full()
				s.Slots = nil
				for k := range count {
					s.Slots = append(s.Slots, api.Slot{Name: "a" + string(rune('a'+k)), At: 300 + k})
				}
				expectFine(t, s)
				s.Slots[second].Name = s.Slots[first].Name
				expectWrong(t, s, twice, 300+second)
			}
		}
	}
}

// One name may stand for one of each kind, the strategy's own among them; each is found where it is meant.
func TestOneNameOfEachKind(t *testing.T) {
	s := api.Strategy{
		Name:  "x",
		Regs:  []api.Reg{{Name: "x", Type: tQty, Init: lots()}},
		Slots: []api.Slot{{Name: "x"}},
		States: []api.State{{Name: "x", Rules: []api.Rule{{
			When: binary(api.OperLt, reg("x"), lots()),
			Dos:  []api.Do{submit("x", buy(), reg("x"), price()), amend("x", reg("x"), price()), cancel("x"), set("x", binary(api.OperAdd, reg("x"), lots())), goTo("x")},
		}}}},
	}
	expectFine(t, s)
	s.Regs[0].Type, s.Regs[0].Init = tPrice, price()
	s.States[0].Rules[0].When = has(1)
	expectWrong(t, numbered(s), fit, numbered(s).States[0].Rules[0].Dos[0].Qty.At)
}

// A name of one kind is none of another.
func TestNamesOfOtherKinds(t *testing.T) {
	names := map[string]string{"i": "reg", "b": "reg", "o": "slot", "u": "slot", "a": "state", "z": "state", "s": "strategy", "nothing": "none", longName: "none"}
	for name, kind := range names {
		for _, d := range []struct {
			do   api.Do
			need string
		}{
			{submit(name, buy(), lots(), price()), "slot"}, {market(name, buy(), lots()), "slot"},
			{amend(name, lots(), price()), "slot"}, {cancel(name), "slot"},
			{set(name, reg("i")), "reg"}, {goTo(name), "state"},
		} {
			x := doing(doAt(5, cancel("o")), doAt(31, d.do))
			switch {
			case d.need != kind:
				expectWrong(t, x, none, 31)
			case d.do.Kind == api.DoSet && name == "b":
				expectWrong(t, x, fit, 0)
			default:
				expectFine(t, x)
			}
		}
	}
}

// A submit need not have a name; with none it asks for no slot, whatever there is.
func TestSubmitsWithoutNames(t *testing.T) {
	for order := api.Limit; order <= api.Post; order++ {
		d := submit("", buy(), lots(), price())
		if order == api.Market {
			d = market("", buy(), lots())
		}
		d.Order = order
		expectFine(t, doing(d))
		s := doing(d)
		s.Slots = nil
		expectFine(t, s)
		d.Name, d.At = "o", 8
		expectFine(t, doing(d))
		s = doing(d)
		s.Slots = nil
		expectWrong(t, s, none, 8)
	}
}

// Registers begin with each literal, and with each number below a minus, of their Type and of another.
func TestBeginningsOfRegisters(t *testing.T) {
	var inits []api.Node
	for _, n := range []int64{0, 1, 2, greatest} {
		for to := tInt; to <= tTime; to++ {
			inits = append(inits, lit(to, n), unary(api.OperNeg, lit(to, n)))
		}
	}
	inits = append(inits, lit(tBool, 0), lit(tBool, 1), lit(tSide, 1), lit(tSide, 2))
	for _, init := range inits {
		is := init.Type
		if init.Kind == api.NodeUnary {
			is = init.Kids[0].Type
		}
		for to := tInt; to <= tSide; to++ {
			for before := range 3 {
				s := full()
				s.Regs = append(s.Regs[:before:before], api.Reg{Name: "fresh", Type: to, Init: at(5, init), At: 61})
				if is == to {
					expectFine(t, s)
				} else {
					expectWrong(t, s, fit, 61)
				}
			}
		}
	}
}

// Register by register: twice ahead of what it begins with; a register ahead of another; registers ahead of slots, slots ahead of states, these ahead of rules.
func TestWhichOfTheNamesIsFirst(t *testing.T) {
	s := full()
	s.Regs[1] = api.Reg{Name: "i", Type: tInt, Init: lots(), At: 41}
	expectWrong(t, s, twice, 41)
	s.Regs[0].Init = buy()
	expectWrong(t, s, fit, 101)
	s = full()
	s.Regs[1].Init = num(1)
	s.Regs[2].Name = "i"
	expectWrong(t, s, fit, 102)
	s.Regs[1].Init = lots()
	s.Regs[3].Init = num(1)
	expectWrong(t, s, twice, 103)
	// All wrong at once, then one after the other mended.
	s = full(api.Rule{When: at(31, num(1)), Dos: []api.Do{doAt(32, halt()), doAt(33, halt())}})
	s.Regs[5].Init = num(1)
	s.Slots[1].Name = "o"
	s.States[1].Name = "a"
	expectWrong(t, s, fit, 106)
	s.Regs[5].Init = buy()
	expectWrong(t, s, twice, 108)
	s.Slots[1].Name = "i"
	expectWrong(t, s, twice, 110)
	s.States[1].Name = "o"
	expectWrong(t, s, fit, 31)
	s.States[0].Rules[0].When = has(1)
	expectWrong(t, s, last, 33)
	s.States[0].Rules[0].Dos[0] = cancel("o")
	expectFine(t, s)
}

// A goto may name a state that stands behind it; a register may not be read by name ahead of all, for it begins with a literal alone.
func TestStatesBehindTheirGotos(t *testing.T) {
	s := doing(goTo("z"))
	expectFine(t, s)
	s.States[1].Rules = []api.Rule{{When: reg("b"), Dos: []api.Do{goTo("a")}}}
	expectFine(t, s)
	s.States = s.States[:1]
	expectWrong(t, s, none, 0)
}
