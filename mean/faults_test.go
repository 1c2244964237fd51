package mean_test

import (
	"testing"

	"tripwire/api"
)

// Faults: which one is met first, and which is not met at all.

// faulty is an expression of TypeInt with this fault, where nothing is bid, asked or traded.
func faulty(no api.Errno) api.Node {
	switch no {
	case over:
		return binary(api.OperAdd, num(greatest), num(1))
	case zero:
		return binary(api.OperDiv, num(1), num(0))
	}
	return conv(tInt, field(api.FieldBid))
}

// faultyOf is one of any type with this fault.
func faultyOf(to api.Type, no api.Errno) api.Node {
	switch to {
	case tBool:
		return binary(api.OperEq, faulty(no), num(1))
	case tSide:
		return cond(faultyOf(tBool, no), buy(), buy())
	}
	return conv(to, faulty(no))
}

// fineOf is one of any type without a fault.
func fineOf(to api.Type) api.Node { return lit(to, 1) }

var everyFault = []api.Errno{over, zero, absent}

func TestFaultsAreAsTheyAreSaid(t *testing.T) {
	for _, no := range everyFault {
		for to := tInt; to <= tSide; to++ {
			expectNoValue(t, full(), faultyOf(to, no), begun(), api.Snap{}, no)
		}
	}
}

// A fault in a kid is the whole's, in every node that reckons it.
func TestFaultsOfKids(t *testing.T) {
	for _, no := range everyFault {
		for to := tInt; to <= tTime; to++ {
			x, fine := faultyOf(to, no), fineOf(to)
			all := []api.Node{unary(api.OperNeg, x), call(api.OperAbs, x), cond(lit(tBool, 1), x, fine), cond(lit(tBool, 0), fine, x), binary(api.OperMul, num(0), x), binary(api.OperMul, x, num(0)), binary(api.OperDiv, x, num(1))}
			for other := tInt; other <= tTime; other++ {
				all = append(all, conv(other, x))
			}
			for o := api.OperMin; o <= api.OperGe; o++ {
				if o != api.OperMul {
					all = append(all, oper(o, x, fine), oper(o, fine, x))
				}
			}
			for _, n := range all {
				expectNoValue(t, full(), n, begun(), api.Snap{}, no)
			}
		}
		asked, side := faultyOf(tBool, no), faultyOf(tSide, no)
		for _, n := range []api.Node{
			unary(api.OperNot, asked), binary(api.OperEq, asked, fineOf(tBool)), binary(api.OperNe, fineOf(tBool), asked), binary(api.OperEq, side, buy()), binary(api.OperNe, buy(), side),
			cond(asked, num(1), num(1)), cond(asked, side, side), cond(fineOf(tBool), asked, asked), binary(api.OperAnd, asked, lit(tBool, 0)), binary(api.OperOr, asked, lit(tBool, 1)),
		} {
			expectNoValue(t, full(), n, begun(), api.Snap{}, no)
		}
	}
}

// Of two faults the first from the left is met, in every Oper; also where the second kid is nought below a division.
func TestTheFirstOfTwoFaults(t *testing.T) {
	for _, first := range everyFault {
		for _, second := range everyFault {
			for o := api.OperMin; o <= api.OperGe; o++ {
				expectNoValue(t, full(), oper(o, faulty(first), faulty(second)), begun(), api.Snap{}, first)
			}
			for _, o := range []api.Oper{api.OperEq, api.OperNe, api.OperAnd, api.OperOr} {
				expectNoValue(t, full(), binary(o, faultyOf(tBool, first), faultyOf(tBool, second)), begun(), api.Snap{}, first)
			}
			expectNoValue(t, full(), cond(faultyOf(tBool, first), faulty(second), faulty(second)), begun(), api.Snap{}, first)
			// Deeper ones, with a third one behind them.
			expectNoValue(t, full(), binary(api.OperSub, num(1), call(api.OperMin, unary(api.OperNeg, faulty(first)), call(api.OperMax, faulty(second), faulty(second)))), begun(), api.Snap{}, first)
		}
		// The node's own fault comes behind those of its kids.
		expectNoValue(t, full(), binary(api.OperDiv, faulty(first), num(0)), begun(), api.Snap{}, first)
		expectNoValue(t, full(), binary(api.OperMod, faulty(first), num(0)), begun(), api.Snap{}, first)
		expectNoValue(t, full(), binary(api.OperDiv, num(1), binary(api.OperMul, num(0), faulty(first))), begun(), api.Snap{}, first)
		expectNoValue(t, full(), binary(api.OperAdd, num(greatest), call(api.OperMax, num(1), faulty(first))), begun(), api.Snap{}, first)
	}
	// Of the fields the first one that is not there; all are absent alike, so what stands ahead must be another fault.
	expectNoValue(t, full(), binary(api.OperAdd, field(2), conv(tPrice, faulty(zero))), begun(), api.Snap{Bid: 5}, absent)
	expectNoValue(t, full(), binary(api.OperAdd, field(1), conv(tPrice, faulty(zero))), begun(), api.Snap{Bid: 5}, zero)
}

// What is not reckoned has no fault: behind an and that is 0, an or that is 1, in a condition's other kid.
func TestFaultsThatAreNotMet(t *testing.T) {
	no, yes := lit(tBool, 0), lit(tBool, 1)
	for _, x := range everyFault {
		bad := faultyOf(tBool, x)
		for _, c := range []struct {
			n    api.Node
			want int64
		}{
			{binary(api.OperAnd, no, bad), 0}, {binary(api.OperOr, yes, bad), 1},
			{binary(api.OperAnd, binary(api.OperAnd, no, bad), bad), 0}, {binary(api.OperOr, binary(api.OperOr, yes, bad), bad), 1},
			{binary(api.OperOr, binary(api.OperAnd, no, bad), yes), 1}, {binary(api.OperAnd, binary(api.OperOr, yes, bad), no), 0},
			{binary(api.OperAnd, yes, binary(api.OperOr, yes, bad)), 1}, {binary(api.OperOr, no, binary(api.OperAnd, no, bad)), 0},
			{cond(yes, num(7), faulty(x)), 7}, {cond(no, faulty(x), num(8)), 8}, {cond(yes, buy(), faultyOf(tSide, x)), 1},
			{cond(binary(api.OperAnd, no, bad), faulty(x), num(9)), 9}, {cond(binary(api.OperOr, yes, bad), num(9), faulty(x)), 9},
			{cond(yes, cond(no, faulty(x), num(3)), faulty(x)), 3}, {unary(api.OperNot, binary(api.OperAnd, no, bad)), 1},
			{binary(api.OperAnd, has(1), binary(api.OperGt, field(1), price())), 0}, {binary(api.OperOr, unary(api.OperNot, has(3)), binary(api.OperGt, field(3), price())), 1},
			{cond(has(2), field(2), price()), 3},
		} {
			expectValue(t, full(), c.n, begun(), api.Snap{}, c.want)
		}
		for _, n := range []api.Node{
			binary(api.OperAnd, yes, bad), binary(api.OperOr, no, bad), binary(api.OperAnd, bad, no), binary(api.OperOr, bad, yes),
			cond(no, num(7), faulty(x)), cond(yes, faulty(x), num(8)), cond(bad, num(1), num(1)),
			binary(api.OperAnd, binary(api.OperOr, no, yes), bad), binary(api.OperOr, binary(api.OperAnd, yes, no), bad),
		} {
			expectNoValue(t, full(), n, begun(), api.Snap{}, x)
		}
	}
	// All that is reckoned of the others is reckoned whole: nought times a fault, a comparison that is settled.
	for _, text := range []string{"0 * (1 / 0)", "1 / 0 * 0", "min(0, 1 / 0)", "false == (1 / 0 > 1)", "1 / 0 - 1 / 0", "abs(1 / 0)"} {
		expectNoValue(t, full(), expr(t, text), begun(), api.Snap{}, zero)
	}
}

// Numbers that leave 64 bits in between do so, whatever they would come back to.
func TestNothingWrapsInBetween(t *testing.T) {
	for _, text := range []string{
		"9223372036854775807 + 1 - 1", "9223372036854775807 * 2 / 2", "0 - 9223372036854775807 - 2 + 2", "-(0 - 9223372036854775807 - 1)", "abs(-9223372036854775807 - 1)", "(-9223372036854775807 - 1) / -1", "min(1, 4611686018427387904 * 2)", "int(9223372036854775807q + 1q)",
	} {
		expectNoValue(t, full(), expr(t, text), begun(), seen(), over)
	}
	for text, want := range map[string]int64{
		"-9223372036854775807 - 1": least, "(-9223372036854775807 - 1) % -1": 0, "4611686018427387904 * -2": least, "-9223372036854775807 - 1 + 9223372036854775807": -1, "9223372036854775807 - 1 + 1": greatest,
		"min(-9223372036854775807 - 1, 9223372036854775807)": least, "max(-9223372036854775807 - 1, 9223372036854775807)": greatest, "-9223372036854775807 - 1 < 9223372036854775807": 1,
	} {
		expectValue(t, full(), expr(t, text), begun(), seen(), want)
	}
}
