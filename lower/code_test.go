package lower_test

import (
	"slices"
	"strconv"
	"testing"

	"tripwire/api"
)

// The instructions of each kind of node, behind a guard that is one instruction: their places begin with 1.

func TestInstructionsOfNodesWithoutKids(t *testing.T) {
	for to := tInt; to <= tTime; to++ {
		for _, n := range []int64{0, 1, 2, 500, greatest} {
			expectValue(t, to, lit(to, n), "const 0", n)
		}
	}
	expectValue(t, tBool, truly(), "const 0", 1)
	expectValue(t, tBool, falsely(), "const 0", 0)
	expectValue(t, tSide, lit(tSide, 1), "const 0", 1)
	expectValue(t, tSide, lit(tSide, 2), "const 0", 2)
	for to := tInt; to <= tSide; to++ {
		expectValue(t, to, reg(regNames[to]), "reg "+strconv.Itoa(int(to)-1))
	}
	for f, to := range map[api.Field]api.Type{api.FieldBid: tPrice, api.FieldAsk: tPrice, api.FieldLast: tPrice, api.FieldVolume: tQty, api.FieldNow: tTime, api.FieldOpen: tQty} {
		expectValue(t, to, field(f), "field "+strconv.Itoa(int(f)))
		if to == tPrice {
			expectValue(t, tBool, has(f), "has "+strconv.Itoa(int(f)))
		}
	}
}

// Each Oper lays its kids, in order, and itself behind them.
func TestInstructionsOfOpers(t *testing.T) {
	for o := api.OperNeg; o <= api.OperGe; o++ {
		to, a, b, text := tInt, reg("i"), num(7), "reg 0, const 0"
		if o >= api.OperEq {
			to = tBool
		}
		consts := []int64{7}
		kids := []api.Node{a, b}
		switch o {
		case api.OperNeg, api.OperAbs:
			kids, text, consts = kids[:1], "reg 0", nil
		case api.OperNot:
			to, kids, text, consts = tBool, []api.Node{reg("b")}, "reg 4", nil
		}
		expectValue(t, to, oper(o, kids...), text+", oper "+strconv.Itoa(int(o)), consts...)
		if len(kids) == 2 {
			expectValue(t, to, oper(o, b, a), "const 0, reg 0, oper "+strconv.Itoa(int(o)), 7)
		}
	}
	expectValue(t, tInt, expr(t, "i - i * i"), "reg 0, reg 0, reg 0, oper 8, oper 7")
	expectValue(t, tInt, expr(t, "(i - i) * i"), "reg 0, reg 0, oper 7, reg 0, oper 8")
	expectValue(t, tInt, expr(t, "-min(i, abs(-i)) % 3"), "reg 0, reg 0, oper 1, oper 3, oper 4, oper 1, const 0, oper 10", 3)
	expectValue(t, tInt, expr(t, "bid * volume / i"), "field 1, field 4, oper 8, reg 0, oper 9")
}

// A conversion has nothing of its own.
func TestInstructionsOfConversions(t *testing.T) {
	expectValue(t, tInt, conv(tInt, reg("q")), "reg 1")
	expectValue(t, tQty, conv(tQty, reg("q")), "reg 1")
	expectValue(t, tTime, conv(tTime, conv(tPrice, conv(tInt, field(4)))), "field 4")
	expectValue(t, tPrice, expr(t, "price(i + int(open)) - bid"), "reg 0, field 6, oper 6, field 1, oper 7")
	expectValue(t, tQty, expr(t, "qty(-i)"), "reg 0, oper 1")
	expectValue(t, tQty, expr(t, "qty(-1)"), "const 0, oper 1", 1)
}

// Those that jump: each to the place behind all of its own, or to what is asked third.
func TestInstructionsThatJump(t *testing.T) {
	expectValue(t, tBool, expr(t, "b && has bid"), "reg 4, and 4, has 1")
	expectValue(t, tBool, expr(t, "b || has ask"), "reg 4, or 4, has 2")
	expectValue(t, tInt, expr(t, "b ? i : 7"), "reg 4, else 5, reg 0, jump 6, const 0", 7)
	expectValue(t, tSide, expr(t, "b ? buy : d"), "reg 4, else 5, const 0, jump 6, reg 5", 1)
	// Longer kids.
	expectValue(t, tBool, expr(t, "i < 1 && i > 2"), "reg 0, const 0, oper 13, and 8, reg 0, const 1, oper 15", 1, 2)
	expectValue(t, tInt, expr(t, "i < 1 ? i + i : -i"), "reg 0, const 0, oper 13, else 9, reg 0, reg 0, oper 6, jump 11, reg 0, oper 1", 1)
	// Within an Oper the code goes on behind them.
	expectValue(t, tInt, expr(t, "(b ? i : 7) + 7"), "reg 4, else 5, reg 0, jump 6, const 0, const 0, oper 6", 7)
	expectValue(t, tInt, expr(t, "7 + (b ? i : 7)"), "const 0, reg 4, else 6, reg 0, jump 7, const 0, oper 6", 7)
	expectValue(t, tBool, expr(t, "!(b && has bid)"), "reg 4, and 4, has 1, oper 2")
	expectValue(t, tBool, expr(t, "(b && has bid) == (has ask || b)"), "reg 4, and 4, has 1, has 2, or 7, reg 4, oper 11")
}

// Jumps over jumps: rows, one within the other, and conds in each kid of a cond.
func TestJumpsOverJumps(t *testing.T) {
	expectValue(t, tBool, expr(t, "b && has bid && has ask"), "reg 4, and 4, has 1, and 6, has 2")
	expectValue(t, tBool, expr(t, "b && (has bid && has ask)"), "reg 4, and 6, has 1, and 6, has 2")
	expectValue(t, tBool, expr(t, "b || has bid || has ask || has last"), "reg 4, or 4, has 1, or 6, has 2, or 8, has 3")
	expectValue(t, tBool, expr(t, "b || (has bid || (has ask || has last))"), "reg 4, or 8, has 1, or 8, has 2, or 8, has 3")
	expectValue(t, tBool, expr(t, "b && has bid || has ask && has last"), "reg 4, and 4, has 1, or 8, has 2, and 8, has 3")
	expectValue(t, tBool, expr(t, "(b || has bid) && (has ask || has last)"), "reg 4, or 4, has 1, and 8, has 2, or 8, has 3")
	expectValue(t, tInt, expr(t, "b ? 1 : has bid ? 2 : 3"), "reg 4, else 5, const 0, jump 10, has 1, else 9, const 1, jump 10, const 2", 1, 2, 3)
	expectValue(t, tInt, expr(t, "b ? has bid ? 1 : 2 : 3"), "reg 4, else 9, has 1, else 7, const 0, jump 8, const 1, jump 10, const 2", 1, 2, 3)
	expectValue(t, tInt, expr(t, "(b ? has bid : has ask) ? 1 : 2"), "reg 4, else 5, has 1, jump 6, has 2, else 9, const 0, jump 10, const 1", 1, 2)
	expectValue(t, tInt, expr(t, "b && has bid ? 1 : 2"), "reg 4, and 4, has 1, else 7, const 0, jump 8, const 1", 1, 2)
	expectValue(t, tBool, expr(t, "b ? b && has bid : b || has ask"), "reg 4, else 7, reg 4, and 6, has 1, jump 10, reg 4, or 10, has 2")
	expectValue(t, tBool, expr(t, "b && (has bid ? b : has ask)"), "reg 4, and 8, has 1, else 7, reg 4, jump 8, has 2")
	expectValue(t, tBool, expr(t, "(b ? has bid : has ask) || b"), "reg 4, else 5, has 1, jump 6, has 2, or 8, reg 4")
}

// What is folded is laid folded: what goes has no instruction, no constant, no jump.
func TestInstructionsOfWhatIsFolded(t *testing.T) {
	expectValue(t, tInt, expr(t, "1 + 2 * 3"), "const 0", 7)
	expectValue(t, tInt, expr(t, "i + (2 + 3)"), "reg 0, const 0, oper 6", 5)
	expectValue(t, tInt, expr(t, "2 - 3"), "const 0, const 1, oper 7", 2, 3)
	expectValue(t, tInt, expr(t, "1 / 0"), "const 0, const 1, oper 9", 1, 0)
	expectValue(t, tBool, expr(t, "1 < 2"), "const 0", 1)
	expectValue(t, tBool, expr(t, "1 < 2 && b"), "reg 4")
	expectValue(t, tBool, expr(t, "b && 1 < 2"), "reg 4, and 4, const 0", 1)
	expectValue(t, tBool, expr(t, "1 > 2 && bid > 9p"), "const 0", 0)
	expectValue(t, tBool, expr(t, "has bid || (false || 3 > 4)"), "has 1, or 4, const 0", 0)
	expectValue(t, tPrice, expr(t, "1 < 2 ? bid : ask"), "field 1")
	expectValue(t, tPrice, expr(t, "1 > 2 ? bid : b ? ask : 1p + 1p"), "reg 4, else 5, field 2, jump 6, const 0", 2)
	expectValue(t, tPrice, expr(t, "price(3) + 1p"), "const 0", 4)
}

// A number stands in Consts once, whatever type its literals are of, in the order in which the code first names it.
func TestConstants(t *testing.T) {
	x := tableOf(t, full(
		rule(expr(t, "i == 5 || q == 0q"), submit("o", buy(), expr(t, "5q + q"), expr(t, "9p - p")), set("b", falsely())),
		rule(truly(), set("t", expr(t, "t + 9t")), set("i", expr(t, "i * 2 + 0")), set("d", lit(tSide, 2)), set("p", expr(t, "1p + 1p - 2p"))),
	))
	expectCode(t, x, "reg 0, const 0, oper 11, or 7, reg 1, const 1, oper 11, const 2, const 0, reg 1, oper 6, const 3, reg 2, oper 7, const 1, const 2, reg 3, const 3, oper 6, reg 0, const 4, oper 8, const 1, oper 6, const 4, const 1", 5, 0, 1, 9, 2)
	// Noughts of every kind are one number, and so are ones; the greatest there is is one, too.
	x = tableOf(t, full(rule(falsely(), set("i", num(0)), set("q", lit(tQty, 0)), set("p", lit(tPrice, 0)), set("t", lit(tTime, 0)), set("b", truly()), set("d", buy()), set("i", num(greatest)), set("q", lit(tQty, greatest)))))
	expectCode(t, x, "const 0, const 0, const 0, const 0, const 0, const 1, const 1, const 2, const 2", 0, 1, greatest)
	// A minus is an Oper: the number below it is the one above it.
	x = tableOf(t, full(rule(truly(), set("i", expr(t, "-7 + i")), set("i", expr(t, "7 - i")), set("q", expr(t, "-1q")))))
	expectCode(t, x, "const 0, const 1, oper 1, reg 0, oper 6, const 1, reg 0, oper 7, const 0, oper 1", 1, 7)
	// They go on through all rules and states; what is folded away names none; nor do registers' beginnings.
	s := full(rule(expr(t, "i > 3"), set("i", expr(t, "i + 4 * 2"))), rule(expr(t, "false && i > 77"), halt()))
	s.States[1].Rules = []api.Rule{rule(expr(t, "i > 8 || i < 3"), set("i", expr(t, "i + 0 + 6")))}
	s.Regs[0].Init = num(55)
	expectCode(t, tableOf(t, s), "reg 0, const 0, oper 15, reg 0, const 1, oper 6, const 2, reg 0, const 1, oper 15, or 14, reg 0, const 0, oper 13, reg 0, const 2, oper 6, const 3, oper 6", 3, 8, 0, 6)
}

// Jumps of later expressions are places in the whole code.
func TestJumpsFarBehind(t *testing.T) {
	s := full(rule(expr(t, "b && b"), set("i", expr(t, "b ? 1 : 2")), set("b", expr(t, "b || b"))), rule(expr(t, "b && b"), halt()))
	s.States[1].Rules = []api.Rule{rule(expr(t, "b ? b : b"), halt())}
	want := "reg 4, and 3, reg 4, reg 4, else 7, const 0, jump 8, const 1, reg 4, or 11, reg 4, reg 4, and 14, reg 4, reg 4, else 18, reg 4, jump 19, reg 4"
	x := tableOf(t, s)
	expectCode(t, x, want, 1, 2)
	for _, in := range x.Code {
		if in.Kind >= api.InstrAnd && in.A > len(x.Code) {
			t.Errorf("%v leads nowhere", in)
		}
	}
	if spans := []api.Span{x.States[0][0].When, x.States[0][0].Rows[0].Value, x.States[0][0].Rows[1].Value, x.States[0][1].When, x.States[1][0].When}; !slices.Equal(spans, []api.Span{span(0, 3), span(3, 8), span(8, 11), span(11, 14), span(14, 19)}) {
		t.Error(spans)
	}
}
