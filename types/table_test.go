package types_test

import (
	"testing"

	"tripwire/api"
	"tripwire/types"
)

// The table of types, as it stands in the chapter: what fits, and what comes of it; nothing else fits.

const (
	tInt   = api.TypeInt
	tQty   = api.TypeQty
	tPrice = api.TypePrice
	tTime  = api.TypeTime
	tBool  = api.TypeBool
	tSide  = api.TypeSide
)

// odd are types that are none; a register may have them.
var odd = []api.Type{0, 7, 8, 128, 254, 255}

type one struct{ kid, is api.Type }

type two struct{ first, second, is api.Type }

var numbers = []one{{tInt, tInt}, {tQty, tQty}, {tPrice, tPrice}, {tTime, tTime}}

var alikeNumbers = []two{{tInt, tInt, tInt}, {tQty, tQty, tQty}, {tPrice, tPrice, tPrice}, {tTime, tTime, tTime}}

var ordered = []two{{tInt, tInt, tBool}, {tQty, tQty, tBool}, {tPrice, tPrice, tBool}, {tTime, tTime, tBool}}

func rowsOfOne() map[api.Oper][]one {
	return map[api.Oper][]one{api.OperNeg: numbers, api.OperAbs: numbers, api.OperNot: {{tBool, tBool}}}
}

func rowsOfTwo() map[api.Oper][]two {
	equal := append([]two{{tBool, tBool, tBool}, {tSide, tSide, tBool}}, ordered...)
	for _, t := range odd {
		equal = append(equal, two{t, t, tBool})
	}
	both := []two{{tBool, tBool, tBool}}
	return map[api.Oper][]two{
		api.OperAdd: alikeNumbers, api.OperSub: alikeNumbers, api.OperMod: alikeNumbers, api.OperMin: alikeNumbers, api.OperMax: alikeNumbers,
		api.OperMul: {{tInt, tInt, tInt}, {tInt, tQty, tQty}, {tInt, tPrice, tPrice}, {tInt, tTime, tTime}, {tQty, tInt, tQty}, {tPrice, tInt, tPrice}, {tTime, tInt, tTime}, {tPrice, tQty, tInt}, {tQty, tPrice, tInt}},
		api.OperDiv: {{tInt, tInt, tInt}, {tQty, tInt, tQty}, {tPrice, tInt, tPrice}, {tTime, tInt, tTime}, {tQty, tQty, tInt}, {tPrice, tPrice, tInt}, {tTime, tTime, tInt}},
		api.OperEq:  equal, api.OperNe: equal,
		api.OperLt: ordered, api.OperLe: ordered, api.OperGt: ordered, api.OperGe: ordered,
		api.OperAnd: both, api.OperOr: both,
	}
}

// every is each type, and some that are none.
func every() []api.Type { return append([]api.Type{tInt, tQty, tPrice, tTime, tBool, tSide}, odd...) }

// typedRegs has a register of every type, called by name below.
func typedRegs() api.Strategy {
	var s api.Strategy
	for _, t := range every() {
		s.Regs = append(s.Regs, api.Reg{Name: nameOf(t), Type: t})
	}
	return s
}

func nameOf(t api.Type) string { return "r" + string(rune('a'+t/16)) + string(rune('a'+t%16)) }

// makers are expressions of a type: a register, and of types that are some all kinds of nodes.
func makers(t api.Type) []api.Node {
	all := []api.Node{reg(nameOf(t))}
	x := reg(nameOf(t))
	switch t {
	case tInt:
		all = append(all, num(0), num(greatest), binary(api.OperMul, field(1), field(4)), binary(api.OperDiv, field(5), field(5)), conv(tInt, x))
	case tQty:
		all = append(all, lit(t, 5), field(4), field(6), conv(tQty, field(1)))
	case tPrice:
		all = append(all, lit(t, 5), field(1), field(2), field(3), conv(tPrice, num(1)))
	case tTime:
		all = append(all, lit(t, 5), field(5), conv(tTime, num(1)))
	case tBool:
		return append(all, lit(t, 0), lit(t, 1), has(1), has(2), has(3), unary(api.OperNot, x), binary(api.OperAnd, x, x), binary(api.OperOr, x, x), binary(api.OperEq, buy(), buy()), binary(api.OperLt, lots(), lots()))
	case tSide:
		return append(all, lit(t, 1), lit(t, 2), cond(has(1), x, buy()))
	default:
		return append(all, cond(has(1), x, x))
	}
	return append(all, unary(api.OperNeg, x), call(api.OperAbs, x), call(api.OperMin, x, x), binary(api.OperSub, x, x), binary(api.OperMod, x, x), binary(api.OperMul, num(2), x), binary(api.OperDiv, x, num(2)))
}

func TestMakersHaveTheirTypes(t *testing.T) {
	s := typedRegs()
	for _, want := range every() {
		for _, n := range makers(want) {
			expectType(t, s, n, want)
		}
	}
}

func TestFieldsAndLiterals(t *testing.T) {
	var s api.Strategy
	for f, want := range map[api.Field]api.Type{api.FieldBid: tPrice, api.FieldAsk: tPrice, api.FieldLast: tPrice, api.FieldVolume: tQty, api.FieldOpen: tQty, api.FieldNow: tTime} {
		expectType(t, s, field(f), want)
	}
	for f := api.FieldBid; f <= api.FieldLast; f++ {
		expectType(t, s, has(f), tBool)
	}
	for _, n := range []int64{0, 1, 2, greatest} {
		for to := tInt; to <= tTime; to++ {
			expectType(t, s, lit(to, n), to)
		}
	}
	expectType(t, s, lit(tBool, 0), tBool)
	expectType(t, s, lit(tBool, 1), tBool)
	expectType(t, s, lit(tSide, 1), tSide)
	expectType(t, s, lit(tSide, 2), tSide)
}

// expectFit tells whether a node has this type, or, where there is none, does not fit at its place.
func expectFit(t *testing.T, n api.Node, want api.Type, fits bool) {
	t.Helper()
	n = at(77, n)
	if fits {
		expectType(t, typedRegs(), n, want)
		return
	}
	expectNoType(t, typedRegs(), n, fit, 77)
}

func TestOneKidOfEachType(t *testing.T) {
	for o, rows := range rowsOfOne() {
		for _, kid := range every() {
			want, fits := api.Type(0), false
			for _, r := range rows {
				if r.kid == kid {
					want, fits = r.is, true
				}
			}
			for _, n := range makers(kid) {
				expectFit(t, oper(o, n), want, fits)
			}
		}
	}
	for to := tInt; to <= tTime; to++ {
		for _, kid := range every() {
			for _, n := range makers(kid) {
				expectFit(t, conv(to, n), to, kid >= tInt && kid <= tTime)
			}
		}
	}
}

func TestTwoKidsOfEachType(t *testing.T) {
	fitted := 0
	for o, rows := range rowsOfTwo() {
		for _, first := range every() {
			for _, second := range every() {
				want, fits := api.Type(0), false
				for _, r := range rows {
					if r.first == first && r.second == second {
						want, fits = r.is, true
						fitted++
					}
				}
				expectFit(t, oper(o, reg(nameOf(first)), reg(nameOf(second))), want, fits)
				for _, n := range makers(first) {
					expectFit(t, oper(o, n, reg(nameOf(second))), want, fits)
				}
				for _, n := range makers(second) {
					expectFit(t, oper(o, reg(nameOf(first)), n), want, fits)
				}
			}
		}
	}
	if fitted != 5*4+9+7+2*(6+len(odd))+4*4+2 {
		t.Errorf("%d pairs fit", fitted)
	}
}

func TestCondOfEachType(t *testing.T) {
	s := typedRegs()
	for _, asked := range every() {
		for _, yes := range every() {
			for _, no := range every() {
				n := at(5, cond(reg(nameOf(asked)), reg(nameOf(yes)), reg(nameOf(no))))
				if asked == tBool && yes == no {
					expectType(t, s, n, yes)
				} else {
					expectNoType(t, s, n, fit, 5)
				}
			}
		}
	}
	for _, to := range every() {
		for _, yes := range makers(to) {
			for _, no := range makers(to) {
				expectType(t, s, cond(has(1), yes, no), to)
			}
		}
		for _, n := range makers(to) {
			is, err := types.Of(s, cond(n, num(1), num(2)))
			if (err == nil) != (to == tBool) || (is == tInt) != (to == tBool) {
				t.Errorf("%s ? 1 : 2 is %d, %v", short(n), is, err)
			}
		}
	}
}
