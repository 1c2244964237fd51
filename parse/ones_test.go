package parse_test

import (
	"fmt"
	"slices"
	"strings"
	"testing"
)

// begins has the words with which an expression may begin: those that are one by themselves, and those that need more.
var (
	wholes = strings.Fields("true false buy sell bid ask last volume now open")
	starts = strings.Fields("has abs min max int qty price time")
)

func TestLiterals(t *testing.T) {
	for _, s := range []string{
		"0", "0q", "0p", "0t", "1", "2q", "3p", "4t", "10", "9223372036854775807", "9223372036854775807q", "9223372036854775807p", "9223372036854775807t",
		"true", "false", "buy", "sell",
	} {
		expectExpr(t, s, s+"@0")
		expectExpr(t, "  "+s+" ", s+"@2")
		expectExpr(t, "("+s+")", s+"@1")
		expectNoExpr(t, s+" "+s, wrongToken, len(s)+1)
		expectNoExpr(t, s+"(1)", wrongToken, len(s))
	}
}

// Each word of the language by itself, and as a NAME in each place where one is asked for.
func TestWordsWhereNamesStand(t *testing.T) {
	for _, w := range theWords {
		switch {
		case slices.Contains(wholes, w):
			expectExpr(t, w, w+"@0")
			inDo.expect(t, "set x="+w, "set@0 "+w+"@6 x;")
		case slices.Contains(starts, w):
			expectNoExpr(t, w, wrongToken, len(w))
			expectNoExpr(t, "1+"+w, wrongToken, 2+len(w))
		default:
			expectNoExpr(t, w, wrongToken, 0)
			expectNoExpr(t, "1+"+w, wrongToken, 2)
			expectNoExpr(t, "("+w+")", wrongToken, 1)
		}
		expectNoStrategy(t, "strategy "+w+"{state a{}}", wrongToken, 9)
		expectNoStrategy(t, "strategy s{reg "+w+" int=1;state a{}}", wrongToken, 15)
		expectNoStrategy(t, "strategy s{slot "+w+";state a{}}", wrongToken, 16)
		expectNoStrategy(t, "strategy s{state "+w+"{}}", wrongToken, 17)
		inDo.expectNo(t, "submit buy of 1q market as "+w, wrongToken, 27)
		inDo.expectNo(t, "amend "+w+" to 1q at 2p", wrongToken, 6)
		inDo.expectNo(t, "cancel "+w, wrongToken, 7)
		inDo.expectNo(t, "set "+w+"=1", wrongToken, 4)
		inDo.expectNo(t, "goto "+w, wrongToken, 5)
	}
}

// So are names that begin with a word, or that one stands within.
func TestNames(t *testing.T) {
	for _, s := range []string{"x", "q", "bids", "abid", "bid_", "b", "true1", "int8", "has_bid", "long_name_of_all"} {
		expectExpr(t, s, "$"+s+"@0")
		expectExpr(t, "-"+s+"+"+s, fmt.Sprintf("(+@%d (-@0 $%s@1) $%s@%d)", 1+len(s), s, s, 2+len(s)))
		expectNoExpr(t, s+"(1)", wrongToken, len(s))
		expectNoExpr(t, s+" "+s, wrongToken, len(s)+1)
		expectStrategy(t, "strategy "+s+"{reg "+s+" int=1;slot "+s+";state "+s+"{}}",
			fmt.Sprintf("%s reg@%d %s int = 1@%d; slot@%d %s; state@%d %s", s, 10+len(s), s, 19+2*len(s), 21+2*len(s), s, 27+3*len(s), s))
		inDo.expect(t, "cancel "+s+",goto "+s, fmt.Sprintf("cancel@0 %s, goto@%d %s;", s, 8+len(s), s))
		inDo.expect(t, "submit "+s+" of "+s+" market as "+s, fmt.Sprintf("submit@0 market $%s@7 $%s@%d %s;", s, s, 11+len(s), s))
	}
}

func TestFields(t *testing.T) {
	for i, s := range []string{"bid", "ask", "last", "volume", "now", "open"} {
		expectExpr(t, s, s+"@0")
		expectNoExpr(t, s+"()", wrongToken, len(s))
		if i < 3 {
			expectExpr(t, "has "+s, "has "+s+"@0")
			expectExpr(t, "a&&has\n"+s+"||b", fmt.Sprintf("(||@%d (&&@1 $a@0 has %s@3) $b@%d)", 7+len(s), s, 9+len(s)))
		} else {
			expectNoExpr(t, "has "+s, wrongToken, 4)
		}
		expectNoExpr(t, "has has "+s, wrongToken, 4)
		expectNoExpr(t, "has ("+s+")", wrongToken, 4)
		expectNoExpr(t, "has -"+s, wrongToken, 4)
	}
	for _, s := range []string{"x", "1", "true", "buy", "(", ")", "+", "int", "bool", "limit", "as"} {
		expectNoExpr(t, "has "+s, wrongToken, 4)
	}
	expectNoExpr(t, "has", wrongToken, 3)
	expectNoExpr(t, "has bid ask", wrongToken, 8)
}

func TestCalls(t *testing.T) {
	expectExpr(t, "abs(a)", "(abs@0 $a@4)")
	expectExpr(t, "min(a,b)", "(min@0 $a@4 $b@6)")
	expectExpr(t, "max(a,b)", "(max@0 $a@4 $b@6)")
	expectExpr(t, "1+abs (a?b:c)", "(+@1 1@0 (abs@2 (?@8 $a@7 $b@9 $c@11)))")
	expectExpr(t, "min(a?b:c,d||e)", "(min@0 (?@5 $a@4 $b@6 $c@8) (||@11 $d@10 $e@13))")
	expectExpr(t, "max(min(a,b),abs(c))", "(max@0 (min@4 $a@8 $b@10) (abs@13 $c@17))")
	expectExpr(t, "min((a),((b)))", "(min@0 $a@5 $b@10)")
	for _, w := range []string{"abs", "min", "max"} {
		n := len(w)
		expectNoExpr(t, w, wrongToken, n)
		expectNoExpr(t, w+" a", wrongToken, n+1)
		expectNoExpr(t, w+"-a", wrongToken, n)
		expectNoExpr(t, w+"(", wrongToken, n+1)
		expectNoExpr(t, w+"()", wrongToken, n+1)
		expectNoExpr(t, w+"(,a)", wrongToken, n+1)
		expectNoExpr(t, w+"(a", wrongToken, n+2)
		expectNoExpr(t, w+"(a b)", wrongToken, n+3)
		expectNoExpr(t, w+"(a;b)", wrongToken, n+2)
	}
	expectNoExpr(t, "abs(a,b)", wrongToken, 5)
	for _, w := range []string{"min", "max"} {
		expectNoExpr(t, w+"(a)", wrongToken, 5)
		expectNoExpr(t, w+"(a,", wrongToken, 6)
		expectNoExpr(t, w+"(a,)", wrongToken, 6)
		expectNoExpr(t, w+"(a,b", wrongToken, 7)
		expectNoExpr(t, w+"(a,b,c)", wrongToken, 7)
		expectNoExpr(t, w+"((a,b))", wrongToken, 6)
		expectNoExpr(t, w+"(a)(b)", wrongToken, 5)
	}
}

// int, qty, price and time stand in expressions with a bracket behind them, and as types without one; bool and side as types alone.
func TestConversions(t *testing.T) {
	for _, w := range []string{"int", "qty", "price", "time"} {
		n := len(w)
		expectExpr(t, w+"(a)", fmt.Sprintf("(%s@0 $a@%d)", w, n+1))
		expectExpr(t, w+" ( a+b )", fmt.Sprintf("(%s@0 (+@%d $a@%d $b@%d))", w, n+4, n+3, n+5))
		expectExpr(t, "-"+w+"(a?b:c)*2", fmt.Sprintf("(*@%d (-@0 (%s@1 (?@%d $a@%d $b@%d $c@%d))) 2@%d)", n+8, w, n+3, n+2, n+4, n+6, n+9))
		expectNoExpr(t, w, wrongToken, n)
		expectNoExpr(t, w+" a", wrongToken, n+1)
		expectNoExpr(t, w+"+1", wrongToken, n)
		expectNoExpr(t, w+"()", wrongToken, n+1)
		expectNoExpr(t, w+"(a", wrongToken, n+2)
		expectNoExpr(t, w+"(a,b)", wrongToken, n+2)
		inReg.expect(t, "x "+w+"=1", fmt.Sprintf("x %s = 1@%d;", w, n+3))
		inReg.expectNo(t, "x "+w+"(1)=1", wrongToken, n+2)
		inReg.expectNo(t, "x "+w+"="+w+"(1)", wrongToken, n+3)
	}
	for _, w := range []string{"bool", "side"} {
		expectNoExpr(t, w, wrongToken, 0)
		expectNoExpr(t, w+"(a)", wrongToken, 0)
		expectNoExpr(t, "1+"+w+"(a)", wrongToken, 2)
		inReg.expect(t, "x "+w+"=1", fmt.Sprintf("x %s = 1@%d;", w, len(w)+3))
	}
}

func TestBrackets(t *testing.T) {
	expectExpr(t, "(a)", "$a@1")
	expectExpr(t, "((a))", "$a@2")
	expectExpr(t, "(a+b)", "(+@2 $a@1 $b@3)")
	expectExpr(t, "((a)+((b)))", "(+@4 $a@2 $b@7)")
	expectExpr(t, "(has bid)", "has bid@1")
	expectExpr(t, "-(1)", "(-@0 1@2)")
	expectNoExpr(t, "(", wrongToken, 1)
	expectNoExpr(t, ")", wrongToken, 0)
	expectNoExpr(t, "()", wrongToken, 1)
	expectNoExpr(t, "(a", wrongToken, 2)
	expectNoExpr(t, "(a))", wrongToken, 3)
	expectNoExpr(t, "((a)", wrongToken, 4)
	expectNoExpr(t, "(a)(b)", wrongToken, 3)
	expectNoExpr(t, "(a)b", wrongToken, 3)
	expectNoExpr(t, "a(b)", wrongToken, 1)
	expectNoExpr(t, "(a,b)", wrongToken, 2)
	expectNoExpr(t, "{a}", wrongToken, 0)
	expectNoExpr(t, "(a}", wrongToken, 2)
}
