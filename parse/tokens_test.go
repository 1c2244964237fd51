package parse_test

import (
	"strings"
	"testing"

	"tripwire/api"
	"tripwire/lex"
	"tripwire/parse"
)

// broken are texts that are no token, with their errors.
var broken = map[string]api.Errno{
	"&": wrongByte, "|": wrongByte, "A": wrongByte, "$": wrongByte, "\"": wrongByte, "_": wrongByte, ".": wrongByte, "\x00": wrongByte, "\xff": wrongByte,
	"007": wrongNumber, "1x": wrongNumber, "2qq": wrongNumber, "9223372036854775808": wrongNumber,
	"abcdefghijklmnopq": wrongName,
}

// What is no token ends a text at each place where the tokens ahead of it can stand.
func TestNoTokenAtEachPlace(t *testing.T) {
	for s, no := range broken {
		for _, seed := range seedExprs {
			expectBroken(t, seed, s, func(text string, at int) { expectNoExpr(t, text, no, at) })
		}
		for _, seed := range seedStrategies {
			expectBroken(t, seed, s, func(text string, at int) { expectNoStrategy(t, text, no, at) })
		}
	}
}

// expectBroken puts what is no token ahead of and behind each token of a text.
func expectBroken(t *testing.T, seed, s string, expect func(text string, at int)) {
	t.Helper()
	l := strings.Fields(seed)
	for i := range len(l) + 1 {
		ahead := strings.Join(append(append([]string{}, l[:i]...), ""), " ")
		expect(ahead+s, len(ahead))
		expect(ahead+s+" "+strings.Join(l[i:], " "), len(ahead))
		expect(ahead+s+" $", len(ahead))
	}
}

// A token that cannot stand hides what is no token behind it, and the other way round.
func TestNoTokenAndATokenThatCannotStand(t *testing.T) {
	for s, no := range broken {
		expectNoExpr(t, "1 2 "+s, wrongToken, 2)
		expectNoExpr(t, "1 "+s+" 2", no, 2)
		expectNoExpr(t, ") "+s, wrongToken, 0)
		expectNoExpr(t, s+" )", no, 0)
		expectNoExpr(t, "1+)"+s, wrongToken, 2)
		expectNoExpr(t, "1 + "+s, no, 4)
		expectNoExpr(t, "1 "+s, no, 2)
		expectNoExpr(t, "a ? b "+s, no, 6)
		expectNoStrategy(t, "strategy "+s, no, 9)
		expectNoStrategy(t, "strategy 1 "+s, wrongToken, 9)
		expectNoStrategy(t, "strategy s{state a{}} "+s, no, 22)
		expectNoStrategy(t, "strategy s{state a{}} x "+s, wrongToken, 22)
		expectNoStrategy(t, "x "+s, wrongToken, 0)
		// Behind a # it is no more than a remark.
		expectExpr(t, "1 #"+s, "1@0")
		expectNoExpr(t, "1 #"+s+"\n2", wrongToken, 4+len(s))
	}
	expectNoExpr(t, "1 007 &", wrongNumber, 2)
	expectNoExpr(t, "1 & 007", wrongByte, 2)
}

func TestLongTexts(t *testing.T) {
	for _, n := range []int{most - 1, most} {
		blank := strings.Repeat(" ", n-1)
		expectExpr(t, blank+"1", "1@"+itoa(n-1))
		expectExpr(t, "1"+blank, "1@0")
		expectExpr(t, "1#"+blank[1:], "1@0")
		expectNoExpr(t, blank+"+", wrongToken, n-1)
		expectNoExpr(t, blank+"-", wrongToken, n)
		expectNoExpr(t, blank+"&", wrongByte, n-1)
		whole := "strategy s{state a{}}"
		expectStrategy(t, whole+strings.Repeat("\n", n-len(whole)), "s state@11 a")
		expectStrategy(t, strings.Repeat("\n", n-len(whole))+whole, "s state@"+itoa(n-len(whole)+11)+" a")
		expectNoStrategy(t, blank+"x", wrongToken, n-1)
	}
	for _, n := range []int{most + 1, most + 2, 2 * most, 1 << 20} {
		blank := strings.Repeat(" ", n-1)
		for _, s := range []string{blank + " ", blank + "1", "1" + blank, "+" + blank, "&" + blank, blank + "&", "#" + blank, "strategy s{state a{}}" + blank[20:], strings.Repeat("(", n), strings.Repeat("x", n)} {
			expectNoExpr(t, s, tooLong, 0)
			expectNoStrategy(t, s, tooLong, 0)
		}
	}
}

func itoa(n int) string { return api.Errno(n).Error()[len("error "):] }

// With blanks and remarks between all tokens the tree is the same, and each place is that of its token.
func TestBlanksAndRemarksBetweenAllTokens(t *testing.T) {
	for _, gap := range []string{" ", "\t", "\n", "\r", "  \n", "#\n", "# when\n", " #a\n#b\n\t", "#&A007\xff\n"} {
		ahead := len(gap)
		expectExpr(t, gap+"a"+gap+"?"+gap+"1"+gap+":"+gap+"-"+gap+"b"+gap, placesOf("(?@1 $a@0 1@2 (-@4 $b@5))", func(i int) int { return ahead + i*(1+ahead) }))
		expectNoExpr(t, "a"+gap+"+"+gap, wrongToken, 2+2*ahead)
		expectNoExpr(t, "a"+gap+"b"+gap, wrongToken, 1+ahead)
		expectNoExpr(t, gap+"a"+gap+"&"+gap, wrongByte, 1+2*ahead)
	}
	// Marks and numbers need none.
	expectExpr(t, "-1q*!a<2p&&has bid?-3:(x)", "(?@18 (&&@9 (<@6 (*@3 (-@0 1q@1) (!@4 $a@5)) 2p@7) has bid@11) (-@19 3@20) $x@23)")
	expectStrategy(t, "strategy s{reg n int=-1;slot o;state a{when!n do set n=-n,halt;}}",
		"s reg@11 n int = (-@21 1@22); slot@24 o; state@31 a when@39 (!@43 $n@44) do set@49 (-@55 $n@56) n, halt@58;")
}

// placesOf is a told tree with its places turned.
func placesOf(s string, turn func(int) int) string {
	l := strings.Split(s, "@")
	for i := range l[1:] {
		digits := len(l[i+1]) - len(strings.TrimLeft(l[i+1], "0123456789"))
		n := 0
		for _, c := range l[i+1][:digits] {
			n = 10*n + int(c-'0')
		}
		l[i+1] = itoa(turn(n)) + l[i+1][digits:]
	}
	return strings.Join(l, "@")
}

// Each place in a tree is that of a token, of the text that the node or the part begins with, or of its operator.
func TestPlacesAreThoseOfTokens(t *testing.T) {
	for _, seed := range seedStrategies {
		x, err := parse.Strategy(seed)
		if err != nil {
			t.Fatal(err)
		}
		for _, r := range x.Regs {
			expectText(t, seed, r.At, "reg")
			expectNodeText(t, seed, r.Init)
		}
		for _, s := range x.Slots {
			expectText(t, seed, s.At, "slot")
		}
		for _, s := range x.States {
			expectText(t, seed, s.At, "state")
			for _, r := range s.Rules {
				expectText(t, seed, r.At, "when")
				expectNodeText(t, seed, r.When)
				for _, d := range r.Dos {
					expectText(t, seed, d.At, doTexts[d.Kind])
					for _, n := range []api.Node{d.Side, d.Qty, d.Price, d.Value} {
						expectNodeText(t, seed, n)
					}
				}
			}
		}
	}
	for _, seed := range seedExprs {
		n, err := parse.Expr(seed)
		if err != nil {
			t.Fatal(err)
		}
		expectNodeText(t, seed, n)
	}
}

func expectText(t *testing.T, s string, at int, want string) {
	t.Helper()
	if x, _, _ := lex.Next(s, at); x.Text != want || x.At != at {
		t.Errorf("%q: %q stands at %d; want %q", s, x.Text, at, want)
	}
}

func expectNodeText(t *testing.T, s string, n api.Node) {
	t.Helper()
	if n.Kind == 0 {
		return
	}
	want, _, _ := strings.Cut(strings.TrimPrefix(nodeText(n), "$"), " ")
	expectText(t, s, n.At, want)
	for _, kid := range n.Kids {
		expectNodeText(t, s, kid)
	}
}
