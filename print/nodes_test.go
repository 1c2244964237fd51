package print_test

import (
	"fmt"
	"testing"

	"tripwire/api"
)

// The words and operators of the language, by their numbers.
var (
	fieldWords = [7]string{"", "bid", "ask", "last", "volume", "now", "open"}
	typeWords  = [7]string{"", "int", "qty", "price", "time", "bool", "side"}
	letters    = [5]string{"", "", "q", "p", "t"}
	operTexts  = [19]string{"", "-", "!", "abs", "min", "max", "+", "-", "*", "/", "%", "==", "!=", "<", "<=", ">", ">=", "&&", "||"}
)

func TestLiterals(t *testing.T) {
	for to := api.TypeInt; to <= api.TypeTime; to++ {
		for n, digits := range map[int64]string{
			0: "0", 1: "1", 9: "9", 10: "10", 100: "100", 4096: "4096", 1000000000: "1000000000", 9223372036854775806: "9223372036854775806", greatest: "9223372036854775807",
		} {
			expectExpr(t, lit(to, n), digits+letters[to])
		}
	}
	expectExpr(t, lit(5, 0), "false")
	expectExpr(t, lit(5, 1), "true")
	expectExpr(t, lit(6, 1), "buy")
	expectExpr(t, lit(6, 2), "sell")
}

func TestRegistersAsNodes(t *testing.T) {
	for _, name := range []string{"a", "z", "x2_y", "bids", "b", "q", "p1", "a_", "abcdefghijklmnop", "abs_", "a0123456789_____"} {
		expectExpr(t, reg(name), name)
	}
}

func TestFields(t *testing.T) {
	for f := api.FieldBid; f <= api.FieldOpen; f++ {
		expectExpr(t, field(f), fieldWords[f])
	}
	for f := api.FieldBid; f <= api.FieldLast; f++ {
		expectExpr(t, has(f), "has "+fieldWords[f])
	}
}

func TestUnaries(t *testing.T) {
	x := reg("x")
	neg := func(n api.Node) api.Node { return unary(1, n) }
	not := func(n api.Node) api.Node { return unary(2, n) }
	expectExpr(t, neg(x), "-x")
	expectExpr(t, not(x), "!x")
	expectExpr(t, neg(neg(x)), "--x")
	expectExpr(t, not(not(x)), "!!x")
	expectExpr(t, neg(not(x)), "-!x")
	expectExpr(t, not(neg(x)), "!-x")
	expectExpr(t, neg(not(not(neg(neg(x))))), "-!!--x")
	expectExpr(t, neg(num(0)), "-0")
	expectExpr(t, neg(lit(2, greatest)), "-9223372036854775807q")
	expectExpr(t, not(has(1)), "!has bid")
	expectExpr(t, neg(field(6)), "-open")
	expectExpr(t, not(lit(5, 1)), "!true")
	expectExpr(t, neg(call(3, neg(x))), "-abs(-x)")
	expectExpr(t, grown(x, deepest, neg), repeat("-", deepest)+"x")
	expectExpr(t, grown(x, deepest, not), repeat("!", deepest)+"x")
	// Beside the operators between two that are written alike.
	expectExpr(t, binary(7, neg(x), neg(x)), "-x - -x")
	expectExpr(t, binary(7, x, neg(neg(x))), "x - --x")
	expectExpr(t, binary(12, not(x), not(x)), "!x != !x")
	expectExpr(t, neg(binary(7, x, x)), "-(x - x)")
	expectExpr(t, not(binary(12, x, x)), "!(x != x)")
}

func TestBinaries(t *testing.T) {
	for o := api.OperAdd; o <= api.OperOr; o++ {
		expectExpr(t, binary(o, reg("a"), reg("b")), "a "+operTexts[o]+" b")
		expectExpr(t, binary(o, lit(3, 7), has(2)), "7p "+operTexts[o]+" has ask")
	}
}

func TestConditions(t *testing.T) {
	a, b, c := reg("a"), reg("b"), reg("c")
	k := cond(a, b, c)
	expectExpr(t, k, "a ? b : c")
	// A condition at each kid of a condition, and at several.
	expectExpr(t, cond(k, b, c), "(a ? b : c) ? b : c")
	expectExpr(t, cond(a, k, c), "a ? a ? b : c : c")
	expectExpr(t, cond(a, b, k), "a ? b : a ? b : c")
	expectExpr(t, cond(k, k, c), "(a ? b : c) ? a ? b : c : c")
	expectExpr(t, cond(k, b, k), "(a ? b : c) ? b : a ? b : c")
	expectExpr(t, cond(a, k, k), "a ? a ? b : c : a ? b : c")
	expectExpr(t, cond(k, k, k), "(a ? b : c) ? a ? b : c : a ? b : c")
	expectExpr(t, cond(cond(k, b, c), b, c), "((a ? b : c) ? b : c) ? b : c")
	expectExpr(t, cond(binary(18, a, b), binary(18, a, b), binary(18, a, b)), "a || b ? a || b : a || b")
	expectExpr(t, cond(unary(2, k), b, c), "!(a ? b : c) ? b : c")
}

func TestCalls(t *testing.T) {
	a, b := reg("a"), reg("b")
	expectExpr(t, call(3, a), "abs(a)")
	expectExpr(t, call(4, a, b), "min(a, b)")
	expectExpr(t, call(5, a, b), "max(a, b)")
	for to := api.TypeInt; to <= api.TypeTime; to++ {
		expectExpr(t, conv(to, a), typeWords[to]+"(a)")
		expectExpr(t, conv(to, conv(to, unary(1, lit(to, 3)))), fmt.Sprintf("%s(%s(-3%s))", typeWords[to], typeWords[to], letters[to]))
	}
	// Whatever stands in them needs no brackets.
	k, sum := cond(a, b, a), binary(6, a, b)
	expectExpr(t, call(3, k), "abs(a ? b : a)")
	expectExpr(t, call(4, k, sum), "min(a ? b : a, a + b)")
	expectExpr(t, call(5, sum, k), "max(a + b, a ? b : a)")
	expectExpr(t, conv(2, k), "qty(a ? b : a)")
	expectExpr(t, call(4, call(5, a, call(3, b)), conv(1, call(4, b, a))), "min(max(a, abs(b)), int(min(b, a)))")
	// Nor do they themselves.
	expectExpr(t, binary(8, call(4, sum, sum), unary(1, conv(4, sum))), "min(a + b, a + b) * -time(a + b)")
}
