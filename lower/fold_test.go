package lower_test

import (
	"testing"

	"tripwire/api"
	"tripwire/lower"
)

func truly() api.Node   { return lit(tBool, 1) }
func falsely() api.Node { return lit(tBool, 0) }

// faulty are expressions of this type that fault, each with nothing in it that is known ahead but what faults itself.
func faulty(to api.Type) []api.Node {
	by := func(o api.Oper, a, b int64) api.Node { return binary(o, lit(to, a), lit(tInt, b)) }
	switch to {
	case tBool:
		return []api.Node{binary(api.OperEq, by9223(tInt), num(1)), binary(api.OperGt, binary(api.OperDiv, num(1), num(0)), num(1))}
	case tInt:
		return []api.Node{by9223(to), by(api.OperDiv, 1, 0), by(api.OperMod, 0, 0), by(api.OperMul, greatest, 2)}
	}
	return []api.Node{by9223(to), by(api.OperDiv, 1, 0), by(api.OperMul, greatest, 2), binary(api.OperMod, lit(to, 1), lit(to, 0))}
}

// by9223 is one more than there is.
func by9223(to api.Type) api.Node { return binary(api.OperAdd, lit(to, greatest), lit(to, 1)) }

// What has no kids is folded: literals, registers, fields and what asks for them.
func TestNodesWithoutKids(t *testing.T) {
	for to := tInt; to <= tTime; to++ {
		for _, n := range []int64{0, 1, 2, greatest} {
			expectStays(t, at(5, lit(to, n)))
		}
	}
	for _, n := range []api.Node{truly(), falsely(), lit(tSide, 1), lit(tSide, 2), reg("i"), reg("zz"), reg(longName)} {
		expectStays(t, at(6, n))
	}
	for f := api.Field(1); f <= 6; f++ {
		expectStays(t, at(7, field(f)))
		if f <= 3 {
			expectStays(t, at(8, has(f)))
		}
	}
}

// Each Oper of literals that fit, in each type, at the place of its own: to a literal of its own type.
func TestOpersOfLiterals(t *testing.T) {
	for text, want := range map[string]string{
		"-0": "0", "-0q": "0q", "-0p": "0p", "-0t": "0t", "!true": "false", "!false": "true", "!!true": "true",
		"abs(5)": "5", "abs(5q)": "5q", "abs(0p)": "0p", "abs(9t)": "9t",
		"min(3, 2)": "2", "min(2q, 3q)": "2q", "min(2p, 2p)": "2p", "max(3, 2)": "3", "max(2t, 3t)": "3t", "max(2p, 2p)": "2p",
		"1 + 2": "3", "1q + 2q": "3q", "1p + 2p": "3p", "1t + 2t": "3t", "5 - 3": "2", "5q - 5q": "0q", "5p - 4p": "1p", "5t - 1t": "4t",
		"7 % 4": "3", "7q % 4q": "3q", "8p % 4p": "0p", "7t % 9t": "7t",
		"2 * 3": "6", "2 * 3q": "6q", "2q * 3": "6q", "2 * 3p": "6p", "2p * 3": "6p", "2t * 3": "6t", "2 * 3t": "6t", "2p * 3q": "6", "2q * 3p": "6",
		"7 / 2": "3", "7q / 2": "3q", "7p / 2": "3p", "7t / 2": "3t", "7q / 2q": "3", "7p / 2p": "3", "7t / 2t": "3", "1 / 2": "0",
		"1 == 1": "true", "1q == 2q": "false", "true == true": "true", "true == false": "false", "buy == buy": "true", "buy == sell": "false",
		"1 != 1": "false", "1p != 2p": "true", "true != false": "true", "buy != sell": "true", "sell != sell": "false",
		"1 < 2": "true", "2 < 2": "false", "1q <= 1q": "true", "2p <= 1p": "false", "2t > 1t": "true", "1 > 1": "false", "1 >= 1": "true", "1q >= 2q": "false",
		"int(3)": "3", "int(3q)": "3", "int(3p)": "3", "int(3t)": "3", "qty(3)": "3q", "qty(3p)": "3q", "price(3t)": "3p", "price(0)": "0p", "time(3)": "3t", "time(3t)": "3t",
		"9223372036854775806 + 1": "9223372036854775807", "9223372036854775807 * 1": "9223372036854775807", "3037000499 * 3037000499": "9223372030926249001",
		"9223372036854775807 - 9223372036854775807": "0", "0 * 9223372036854775807": "0", "9223372036854775807 / 9223372036854775807": "1",
	} {
		expectFolds(t, text, want)
	}
	for o := api.OperNeg; o <= api.OperGe; o++ {
		kids := []api.Node{at(7, num(0)), at(8, num(3))}
		want := map[api.Oper]api.Node{api.OperNeg: num(0), api.OperAbs: num(0), api.OperMin: num(0), api.OperMax: num(3), api.OperAdd: num(3), api.OperMul: num(0), api.OperDiv: num(0), api.OperMod: num(0),
			api.OperEq: falsely(), api.OperNe: truly(), api.OperLt: truly(), api.OperLe: truly(), api.OperGt: falsely(), api.OperGe: falsely()}[o]
		switch o {
		case api.OperNeg, api.OperAbs:
			kids = kids[:1]
		case api.OperNot:
			kids, want = []api.Node{at(7, falsely())}, truly()
		case api.OperSub:
			kids, want = []api.Node{kids[1], kids[0]}, num(3)
		}
		expectFold(t, at(99, oper(o, kids...)), at(99, want))
	}
	expectFold(t, at(98, conv(tTime, at(4, num(3)))), at(98, lit(tTime, 3)))
}

// What is below 0 has no literal: it stays, and so does what stands on it, whatever that would come to.
func TestWhatIsBelowNought(t *testing.T) {
	for _, text := range []string{
		"-1", "-1q", "-1p", "-9223372036854775807", "2 - 3", "0t - 1t", "-1 + 1", "-(2 - 3)", "abs(-1)", "min(-1, 1)", "max(1, -1)", "-1 == -1", "-1 < 0", "int(-1q)", "qty(-1)", "-1 * -1", "-5 % 3", "5 % -3", "-4 / -2", "--1",
	} {
		expectStays(t, expr(t, text))
	}
	// Beside it all else is folded.
	for text, want := range map[string]string{
		"-(1 + 1)": "-2", "--0 - 1": "0 - 1", "-1 + (1 + 1)": "-1 + 2", "abs(2 * 2 - 6)": "abs(4 - 6)", "-(3 - 3)": "0", "3 - 1 - 2": "0", "3 - 1 - 3": "2 - 3", "3 - 1 - 3 + 9": "2 - 3 + 9",
		"1 < 2 && -1 < 0": "-1 < 0", "-1 < 0 && 1 < 2": "-1 < 0 && true", "-1 < 0 ? 1 + 1 : 2 + 2": "-1 < 0 ? 2 : 4",
	} {
		expectFolds(t, text, want)
	}
}

// What faults stays wherever it stands, and so does what stands on it; what stands beside it is folded.
func TestWhatFaults(t *testing.T) {
	for to := tInt; to <= tTime; to++ {
		for _, n := range faulty(to) {
			expectStays(t, n)
			expectStays(t, numbered(unary(api.OperNeg, n)))
			expectStays(t, numbered(conv(tInt, n)))
			expectStays(t, numbered(call(api.OperAbs, n)))
			for _, o := range []api.Oper{api.OperMin, api.OperMax, api.OperAdd, api.OperSub, api.OperMod, api.OperDiv, api.OperEq, api.OperNe, api.OperLt, api.OperLe, api.OperGt, api.OperGe} {
				expectStays(t, numbered(oper(o, n, lit(to, 1))))
				expectStays(t, numbered(oper(o, lit(to, 0), n)))
				expectFold(t, oper(o, n, binary(api.OperAdd, lit(to, 1), lit(to, 2))), oper(o, n, lit(to, 3)))
			}
			expectStays(t, numbered(cond(has(1), n, n)))
		}
	}
	for _, n := range faulty(tBool) {
		for _, x := range []api.Node{n, unary(api.OperNot, n), binary(api.OperAnd, n, falsely()), binary(api.OperOr, n, truly()), binary(api.OperAnd, has(1), n), cond(n, num(1), num(1)), binary(api.OperEq, n, truly())} {
			expectStays(t, numbered(x))
		}
	}
	for text, want := range map[string]string{
		"1 / 0 + 0": "1 / 0 + 0", "0 * (1 / 0)": "0 * (1 / 0)", "1 % 0": "1 % 0", "1q / 0q": "1q / 0q", "1 / (2 - 2)": "1 / 0", "9223372036854775807 + 1 - 1": "9223372036854775807 + 1 - 1",
		"min(1 / 0, 2 + 2)": "min(1 / 0, 4)", "1 / 0 == 1 / 0": "1 / 0 == 1 / 0", "3037000500 * 3037000500": "3037000500 * 3037000500", "-(9223372036854775807 + 1)": "-(9223372036854775807 + 1)",
	} {
		expectFolds(t, text, want)
	}
}

// An and, an or and a cond whose first kid is, or is folded to, true or false: one kid is left of them, as it stands; what goes may be anything, also what faults.
func TestWhatIsChosen(t *testing.T) {
	for _, x := range append(faulty(tBool), truly(), falsely(), has(1), reg("b"), reg("zz"), num(7), lots(), binary(api.OperGt, field(1), price())) {
		x = numbered(x)
		for _, yes := range []api.Node{
			at(44, truly()), at(44, unary(api.OperNot, falsely())), at(44, binary(api.OperLt, num(1), num(2))), at(43, binary(api.OperOr, at(44, truly()), faulty(tBool)[0])),
			at(43, binary(api.OperAnd, truly(), at(44, truly()))), at(43, cond(truly(), at(44, truly()), has(1))), at(43, binary(api.OperOr, falsely(), at(44, binary(api.OperEq, buy(), buy())))),
		} {
			expectFold(t, at(50, binary(api.OperAnd, yes, x)), x)
			expectFold(t, at(50, binary(api.OperOr, yes, x)), at(44, truly()))
			expectFold(t, at(50, cond(yes, x, faulty(tBool)[1])), x)
			expectFold(t, at(50, cond(yes, x, reg("zz"))), x)
		}
		for _, no := range []api.Node{
			at(44, falsely()), at(44, unary(api.OperNot, truly())), at(44, binary(api.OperEq, buy(), lit(tSide, 2))), at(43, binary(api.OperAnd, at(44, falsely()), faulty(tBool)[1])),
			at(43, binary(api.OperOr, falsely(), at(44, falsely()))), at(43, cond(falsely(), has(1), at(44, falsely()))), at(43, binary(api.OperAnd, truly(), at(44, binary(api.OperGt, num(1), num(1))))),
		} {
			expectFold(t, at(50, binary(api.OperAnd, no, x)), at(44, falsely()))
			expectFold(t, at(50, binary(api.OperOr, no, x)), x)
			expectFold(t, at(50, cond(no, faulty(tBool)[0], x)), x)
			expectFold(t, at(50, cond(no, reg("zz"), x)), x)
		}
		// What is asked second decides nothing, nor does a number, a side.
		if x.Kind != api.NodeLit {
			for _, o := range []api.Oper{api.OperAnd, api.OperOr} {
				expectStays(t, at(50, binary(o, x, truly())))
				expectStays(t, at(50, binary(o, x, falsely())))
			}
		}
		for _, first := range []api.Node{num(0), num(1), lots(), buy(), has(1), reg("b")} {
			expectStays(t, at(50, binary(api.OperAnd, first, x)))
			expectStays(t, at(50, binary(api.OperOr, first, x)))
			expectStays(t, at(50, cond(first, x, x)))
		}
	}
	for text, want := range map[string]string{
		"true && true": "true", "true && false": "false", "false && true": "false", "false || false": "false", "false || true": "true", "true || false": "true",
		"true ? 1 + 1 : n": "2", "false ? n : 1 + 1": "2", "true ? 2 - 3 : 1": "2 - 3", "true ? 1 / 0 : 1": "1 / 0", "false ? 1 / 0 : 1": "1", "true ? buy : sell": "buy",
		"false && 1 / 0 > 1 || x": "x", "x && (true || y)": "x && true", "(x || false) && true": "(x || false) && true", "true && x && true": "x && true", "true && (true && (false || y))": "y",
		"!(true && x)": "!x", "(true ? a : b) + (false ? c : d)": "a + d", "true ? false ? a : b : c": "b", "x ? true ? a : b : false ? c : d": "x ? a : d", "(1 < 2 ? 3 : 4) * 2": "6",
	} {
		expectFolds(t, text, want)
	}
}

// Kids that do not fit in type stay; what is chosen is chosen all the same, and can make fit what did not.
func TestWhatDoesNotFit(t *testing.T) {
	for text, want := range map[string]string{
		"1 + true": "1 + true", "1q + 1p": "1q + 1p", "1 == 1q": "1 == 1q", "-true": "-true", "!1": "!1", "1q * 1q": "1q * 1q", "1 / 1q": "1 / 1q", "buy < sell": "buy < sell", "true < false": "true < false",
		"min(1, 1q)": "min(1, 1q)", "abs(true)": "abs(true)", "int(true)": "int(true)", "price(buy)": "price(buy)", "1t * 1q": "1t * 1q", "1p / 1t": "1p / 1t", "buy + buy": "buy + buy", "-buy": "-buy", "1 % 1q": "1 % 1q",
		"1 + 1 + true": "2 + true", "(1 + true) * (2 + 2)": "(1 + true) * 4", "!(1 + 1)": "!2", "1 && 2": "1 && 2", "1 ? 2 : 3": "1 ? 2 : 3", "1 + 1 ? 1 + 1 : 2 + 2": "2 ? 2 : 4",
		"false && 1": "false", "true && 1": "1", "true || buy": "true", "false || 1q": "1q", "true ? 1 : 1q": "1", "false ? 1 : 1q": "1q", "1 + (true ? 2 : 3q)": "3", "!(false && 5)": "true", "1 + (false || 2)": "3", "zz + 1": "zz + 1", "x ? 1 : 1q": "x ? 1 : 1q",
	} {
		expectFolds(t, text, want)
	}
	literals := []api.Node{num(2), lots(), price(), lit(tTime, 5), truly(), buy()}
	for o := api.OperNeg; o <= api.OperGe; o++ {
		for _, a := range literals {
			for _, b := range literals {
				n := numbered(oper(o, a, b))
				if o <= api.OperAbs {
					n.Kids = n.Kids[:1]
				}
				expectFold(t, n, modelFold(n))
				if modelType(n) == 0 {
					expectStays(t, n)
				}
			}
		}
	}
	for to := tInt; to <= tTime; to++ {
		for _, a := range literals {
			expectFold(t, at(9, conv(to, a)), modelFold(at(9, conv(to, a))))
		}
	}
}

// One kid that is no literal keeps all of it, but for what can be folded below.
func TestWhatIsNotKnown(t *testing.T) {
	for _, x := range []api.Node{reg("i"), reg("zz"), conv(tInt, field(4)), cond(has(1), num(1), num(2))} {
		x = numbered(x)
		for o := api.OperNeg; o <= api.OperGe; o++ {
			two := binary(api.OperSub, num(4), num(2))
			if o <= api.OperAbs {
				expectStays(t, at(3, oper(o, x)))
				continue
			}
			expectStays(t, at(3, oper(o, x, num(2))))
			expectStays(t, at(3, oper(o, num(2), x)))
			expectStays(t, at(3, oper(o, x, x)))
			expectFold(t, at(3, oper(o, x, at(4, two))), at(3, oper(o, x, at(4, num(2)))))
			expectFold(t, at(3, oper(o, at(4, two), x)), at(3, oper(o, at(4, num(2)), x)))
		}
		expectStays(t, at(3, conv(tQty, x)))
	}
	// Nothing is put into another order for it, nor left out.
	for _, text := range []string{"n + 1 + 2", "1 + n + 2", "0 * n", "n - n", "n / 1", "b && b", "b || !b", "!!b", "--n", "x ? 1 : 1", "bid == bid", "b == true", "min(n, n)", "n + 0", "int(n)"} {
		expectStays(t, expr(t, text))
	}
}

// A literal that comes of folding stands where the node stood; what is chosen, where it stood itself.
func TestPlacesOfWhatIsFolded(t *testing.T) {
	for text, want := range map[string]int{
		"x + (1 + 2)": 2, "(1 + 2) * 3": 8, "1 + 2 * 3": 2, "  -0": 2, "price(3)": 0, "1p + price(3)": 3, "min(2, 1 + 4)": 0, "true && 1 < 2": 10, "false && 1 < 2": 0, "1 > 2 && x": 2, "1 < 2 || x": 2, "true ? n : 1": 7, "1 > 2 ? n : 1 + 1": 14,
		"(1 < 2 ? 3 : 4) * 2": 16, "true && (false || x)": 18,
	} {
		if n := lower.Fold(expr(t, text)); n.At != want {
			t.Errorf("%q is folded at %d; want %d", text, n.At, want)
		}
	}
	n := lower.Fold(expr(t, "x + (1 + 2)"))
	if n.Kids[0].At != 0 || n.Kids[1].At != 7 {
		t.Error(n)
	}
	// Places are no part of what is folded: any may be.
	for _, place := range []int{-1, 0, least, greatest} {
		expectFold(t, at(place, binary(api.OperAdd, at(5, num(1)), at(-6, num(2)))), at(place, num(3)))
		expectFold(t, at(5, binary(api.OperAnd, at(place, falsely()), at(6, has(1)))), at(place, falsely()))
	}
}

// What tree.CheckExpr refuses is answered as it is, all of it, however much in it is known.
func TestExpressionsThatAreRefused(t *testing.T) {
	sum := binary(api.OperAdd, num(1), num(2))
	for _, n := range wrongNodes() {
		for _, x := range []api.Node{
			n, unary(api.OperNeg, n), binary(api.OperAdd, sum, n), binary(api.OperAdd, n, sum), binary(api.OperAnd, falsely(), n), binary(api.OperOr, truly(), n), cond(truly(), sum, n), cond(falsely(), n, sum), conv(tInt, n), call(api.OperMin, sum, n),
		} {
			x = numbered(x)
			if is := lower.Fold(x); !sameNode(is, x) {
				t.Errorf("Fold(%s) is %s", short(x), short(is))
			}
		}
	}
	deep := numbered(grown(sum, deepest, func(n api.Node) api.Node { return unary(api.OperNeg, n) }))
	for _, n := range []api.Node{deep, numbered(binary(api.OperAnd, truly(), deep)), numbered(cond(truly(), num(1), deep))} {
		if is := lower.Fold(n); !sameNode(is, n) {
			t.Errorf("Fold(%s) is %s", short(n), short(is))
		}
	}
	expectFold(t, deep.Kids[0].Kids[0], lower.Fold(deep.Kids[0].Kids[0]))
	odd := api.Node{Kind: 77, Oper: 200, Type: 9, N: -5, Field: 99, Name: "\xff", At: -1, Kids: []api.Node{{N: 6, Kids: []api.Node{{}, {Name: "x"}}}, sum}}
	if is := lower.Fold(odd); !sameNode(is, odd) {
		t.Errorf("Fold(%s) is %s", short(odd), short(is))
	}
}
