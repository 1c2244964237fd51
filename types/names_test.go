package types_test

import (
	"testing"

	"tripwire/api"
	"tripwire/types"
)

// keeping has these registers and nothing else that a strategy must have: Of asks for no more.
func keeping(regs ...api.Reg) api.Strategy { return api.Strategy{Regs: regs} }

func TestNamesOfRegisters(t *testing.T) {
	s := keeping(api.Reg{Name: "n", Type: tInt}, api.Reg{Name: "lim", Type: tPrice}, api.Reg{Name: longName, Type: tSide})
	expectType(t, s, reg("n"), tInt)
	expectType(t, s, reg("lim"), tPrice)
	expectType(t, s, reg(longName), tSide)
	for _, name := range []string{"m", "nn", "li", "limm", "l", "n1", "n_", longName[:15], "s", "a"} {
		expectNoType(t, s, at(9, reg(name)), none, 9)
		expectNoType(t, api.Strategy{}, at(-9, reg(name)), none, -9)
	}
	// A name that a slot, a state or the strategy has is no register's.
	x := full()
	for _, name := range []string{"o", "u", "a", "z", "s"} {
		expectNoType(t, x, reg(name), none, 0)
	}
}

// Of several registers with one name the first counts.
func TestRegistersOfOneName(t *testing.T) {
	for _, first := range every() {
		for _, second := range every() {
			s := keeping(api.Reg{Name: "x", Type: tBool}, api.Reg{Name: "n", Type: first}, api.Reg{Name: "n", Type: second}, api.Reg{Name: "n", Type: tTime}, api.Reg{Name: "x", Type: second})
			expectType(t, s, reg("n"), first)
			expectType(t, s, reg("x"), tBool)
			expectType(t, s, cond(reg("x"), reg("n"), reg("n")), first)
			n := at(3, binary(api.OperAdd, reg("n"), num(1)))
			if first == tInt {
				expectType(t, s, n, tInt)
			} else {
				expectNoType(t, s, n, fit, 3)
			}
		}
	}
}

// A register may have any Type at all; only 1 to 4 are numbers.
func TestRegistersOfAnyType(t *testing.T) {
	for to := range 256 {
		to := api.Type(to)
		s := keeping(api.Reg{Name: "n", Type: to}, api.Reg{Name: "n2", Type: to}, api.Reg{Name: "other", Type: to + 1})
		isNumber := to >= 1 && to <= 4
		n := reg("n")
		expectType(t, s, n, to)
		expectType(t, s, binary(api.OperEq, n, reg("n2")), tBool)
		expectType(t, s, binary(api.OperNe, n, n), tBool)
		expectType(t, s, cond(has(1), n, reg("n2")), to)
		expectNoType(t, s, binary(api.OperEq, n, reg("other")), fit, 0)
		expectNoType(t, s, cond(has(1), n, reg("other")), fit, 0)
		expectNoType(t, s, binary(api.OperAdd, n, reg("other")), fit, 0)
		for _, x := range []api.Node{unary(api.OperNeg, n), call(api.OperAbs, n), binary(api.OperAdd, n, n), binary(api.OperSub, n, n), binary(api.OperMod, n, n), call(api.OperMin, n, n), call(api.OperMax, n, n), binary(api.OperMul, n, num(1)), binary(api.OperMul, num(1), n), binary(api.OperDiv, n, num(1))} {
			if isNumber {
				expectType(t, s, x, to)
			} else {
				expectNoType(t, s, x, fit, 0)
			}
		}
		for _, x := range []api.Node{binary(api.OperLt, n, n), binary(api.OperLe, n, n), binary(api.OperGt, n, n), binary(api.OperGe, n, n)} {
			if isNumber {
				expectType(t, s, x, tBool)
			} else {
				expectNoType(t, s, x, fit, 0)
			}
		}
		if isNumber {
			expectType(t, s, conv(tQty, n), tQty)
			expectType(t, s, binary(api.OperDiv, n, n), tInt)
		} else {
			expectNoType(t, s, conv(tQty, n), fit, 0)
			expectNoType(t, s, binary(api.OperDiv, n, n), fit, 0)
		}
	}
}

// Of asks nothing of a strategy but its registers' Names and Types: all else of it may be wrong, or missing, or too much.
func TestOfAsksForNothingElse(t *testing.T) {
	var regs []api.Reg
	for k := range 5000 {
		regs = append(regs, api.Reg{Name: []string{"", "bid", "A", "1", "a b", "n n"}[k%6], Type: api.Type(k), Init: reg(""), At: least})
	}
	regs = append(regs, api.Reg{Name: "n", Type: tQty, Init: api.Node{Kind: 99, N: -1}})
	x := doing(doAt(1, goTo("nowhere")), halt(), halt(), api.Do{Kind: 77})
	for _, s := range []api.Strategy{
		{Regs: regs},
		{Name: "strategy", Regs: regs, Slots: times(9, api.Slot{}), States: times(99, api.State{Rules: times(20, api.Rule{})})},
		{Name: "s", Regs: regs, Slots: times(2, api.Slot{Name: "n"}), States: append(x.States, x.States...)},
	} {
		expectType(t, s, reg("n"), tQty)
		expectType(t, s, binary(api.OperAdd, reg("n"), field(6)), tQty)
		expectNoType(t, s, at(7, binary(api.OperAdd, reg("n"), field(1))), fit, 7)
		expectNoType(t, s, at(7, reg("o")), none, 7)
		// A name that may not be names no register, whatever they are called.
		for _, name := range []string{"", "bid", "A", "1", "a b", "n n"} {
			expectNoType(t, s, at(7, reg(name)), wrongForm, 0)
		}
		if types.Check(s) == nil {
			t.Error("Check takes it")
		}
	}
}
