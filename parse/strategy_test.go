package parse_test

import (
	"fmt"
	"strings"
	"testing"
)

func TestStrategyRule(t *testing.T) {
	expectStrategy(t, "strategy s{state a{}state b{}}", "s state@11 a state@20 b")
	expectStrategy(t, "strategy s{reg n int=1;state a{}}", "s reg@11 n int = 1@21; state@23 a")
	expectStrategy(t, "strategy s{slot o;state a{}}", "s slot@11 o; state@18 a")
	// Whether two have one name is not asked here.
	expectStrategy(t, "strategy s{reg s int=1;reg s int=1;slot s;slot s;state s{}state s{}}",
		"s reg@11 s int = 1@21; reg@23 s int = 1@33; slot@35 s; slot@42 s; state@49 s state@58 s")
	for _, c := range []struct {
		s  string
		at int
	}{
		// parts left out
		{"s{state a{}}", 0}, {"strategy{state a{}}", 8}, {"strategy s state a{}}", 11}, {"strategy s{}", 11}, {"strategy s{state a{}", 20},
		{"strategy s{reg n int=1;}", 23}, {"strategy s{slot o;}", 18}, {"strategy", 8}, {"strategy s", 10}, {"strategy s{", 11},
		// twice
		{"strategy strategy s{state a{}}", 9}, {"strategy s t{state a{}}", 11}, {"strategy s{{state a{}}", 11}, {"strategy s{state a{}}}", 21},
		{"strategy s{state a{}}strategy s{state a{}}", 21},
		// in another order
		{"s strategy{state a{}}", 0}, {"strategy{s state a{}}", 8}, {"strategy s{slot o;reg n int=1;state a{}}", 18}, {"strategy s{state a{}slot o;}", 20},
		{"strategy s{state a{}reg n int=1;}", 20}, {"strategy s{slot o;state a{}slot p;}", 27}, {"strategy s}state a{}{", 10},
		// others
		{"", 0}, {"1", 0}, {"state a{}", 0}, {"reg n int=1;", 0}, {"strategy 1{state a{}}", 9}, {"strategy s(state a{})", 10}, {"strategy s{a{}}", 11},
		{"strategy s{when true do halt;}", 11}, {"strategy s{;state a{}}", 11}, {"strategy s{state a{};}", 20}, {"strategy s{state a{}};", 21}, {"strategy s;{state a{}}", 10},
	} {
		expectNoStrategy(t, c.s, wrongToken, c.at)
	}
}

// Registers of each type with each literal, with and without a minus: whether they fit is not asked here.
func TestRegisters(t *testing.T) {
	for _, typed := range []string{"int", "qty", "price", "time", "bool", "side"} {
		n := len(typed) + 3
		for _, lit := range []string{"0", "1", "2q", "3p", "4t", "9223372036854775807q"} {
			inReg.expect(t, "n "+typed+"="+lit, fmt.Sprintf("n %s = %s@%d;", typed, lit, n))
			inReg.expect(t, "n "+typed+"=-"+lit, fmt.Sprintf("n %s = (-@%d %s@%d);", typed, n, lit, n+1))
			inReg.expect(t, "n "+typed+" = - "+lit, fmt.Sprintf("n %s = (-@%d %s@%d);", typed, n+2, lit, n+4))
		}
		for _, lit := range []string{"true", "false", "buy", "sell"} {
			inReg.expect(t, "n "+typed+"="+lit, fmt.Sprintf("n %s = %s@%d;", typed, lit, n))
			inReg.expectNo(t, "n "+typed+"=-"+lit, wrongToken, n+1)
		}
	}
	for _, s := range []string{"x", "bid", "has bid", "(1)", "abs(1)", "int(1)", "!true", "+1", ";", "reg", "int"} {
		inReg.expectNo(t, "n int="+s, wrongToken, 6)
		inReg.expectNo(t, "n int=-"+s, wrongToken, 7)
	}
	for _, s := range []string{"-1", "!1", "-true"} {
		inReg.expectNo(t, "n int=-"+s, wrongToken, 7)
	}
	for _, s := range []string{"+1", " 2", "-1", "?1:2", "<2", "&&true", ",2"} {
		inReg.expectNo(t, "n int=1"+s, wrongToken, 7+strings.Count(s, " "))
		inReg.expectNo(t, "n int=-1"+s, wrongToken, 8+strings.Count(s, " "))
	}
}

func TestRegisterRule(t *testing.T) {
	for _, c := range []struct {
		s  string
		at int
	}{
		// parts left out
		{"n int=1;", 0}, {"reg int=1;", 4}, {"reg n=1;", 5}, {"reg n int 1;", 10}, {"reg n int=;", 10}, {"reg n int=1", 12},
		// twice
		{"reg reg n int=1;", 4}, {"reg n n int=1;", 6}, {"reg n int int=1;", 10}, {"reg n int==1;", 9}, {"reg n int= =1;", 11}, {"reg n int=1 1;", 12}, {"reg n int=1;;", 12},
		// in another order
		{"reg int n=1;", 4}, {"reg n=int 1;", 5}, {"n reg int=1;", 0}, {"reg n int 1=;", 10}, {"reg n int;=1", 9},
		// others
		{"reg n foo=1;", 6}, {"reg n limit=1;", 6}, {"reg n bid=1;", 6}, {"reg 1 int=1;", 4}, {"reg n int:1;", 9}, {"reg n int=1,", 11}, {"reg n int=1,m int=2;", 11},
	} {
		inStrategy.expectNo(t, c.s, wrongToken, c.at)
	}
}

func TestSlotRule(t *testing.T) {
	inStrategy.expect(t, "slot o;slot p ;", "slot@0 o; slot@7 p;")
	for _, c := range []struct {
		s  string
		at int
	}{
		{"o;", 0}, {"slot;", 4}, {"slot o", 7}, {"slot slot o;", 5}, {"slot o o;", 7}, {"slot o;;", 7}, {"slot ;o", 5}, {"o slot;", 0}, {";slot o", 0},
		{"slot 1;", 5}, {"slot o,p;", 6}, {"slot o=1;", 6},
	} {
		inStrategy.expectNo(t, c.s, wrongToken, c.at)
	}
}

func TestStateRule(t *testing.T) {
	inStrategy.expect(t, "state x{}state y{when true do halt;}", "state@0 x state@9 y when@17 true@22 do halt@30; state@37 a")
	for _, c := range []struct {
		s  string
		at int
	}{
		{"x{}", 0}, {"state{}", 5}, {"state x}", 7}, {"state x{", 9}, {"state state x{}", 6}, {"state x x{}", 8}, {"state x{{}", 8}, {"state x{}}", 11},
		{"state{x}", 5}, {"x state{}", 0}, {"state x}{", 7}, {"state 1{}", 6}, {"state x();", 7}, {"state x{};", 9}, {"state x{halt;}", 8}, {"state x{do halt;}", 8}, {"state x{;}", 8}, {"state x{state y{}}", 8}, {"state x{reg n int=1;}", 8},
	} {
		inStrategy.expectNo(t, c.s, wrongToken, c.at)
	}
}

func TestRuleRule(t *testing.T) {
	inState.expect(t, "when true do halt;", "when@0 true@5 do halt@13;")
	inState.expect(t, "when true do halt,goto a;when a?b:c do halt;", "when@0 true@5 do halt@13, goto@18 a; when@25 (?@31 $a@30 $b@32 $c@34) do halt@39;")
	// Things may stand behind a goto or a halt: that is not asked here.
	inState.expect(t, "when true do halt,halt,goto a,goto b,cancel o;", "when@0 true@5 do halt@13, halt@18, goto@23 a, goto@30 b, cancel@37 o;")
	for _, c := range []struct {
		s  string
		at int
	}{
		// parts left out
		{"true do halt;", 0}, {"when do halt;", 5}, {"when true halt;", 10}, {"when true do;", 12}, {"when true do halt", 17}, {"when true do halt,;", 18}, {"when true do ,halt;", 13}, {"when true do halt goto a;", 18},
		// twice
		{"when when true do halt;", 5}, {"when true true do halt;", 10}, {"when true do do halt;", 13}, {"when true do halt halt;", 18}, {"when true do halt,,halt;", 18}, {"when true do halt;;", 18},
		// in another order
		{"true when do halt;", 0}, {"when do true halt;", 5}, {"when halt do true;", 5}, {"do halt when true;", 0}, {"when true do;halt", 12},
		// others
		{"when true do x;", 13}, {"when true do 1;", 13}, {"when true do true;", 13}, {"when true do (halt);", 13}, {"when true do limit;", 13}, {"when true do {halt;}", 13}, {"when true,true do halt;", 9}, {"when x=1 do halt;", 6}, {"when true do halt&&halt;", 17}, {"when true? do halt;", 11},
	} {
		inState.expectNo(t, c.s, wrongToken, c.at)
	}
}

func TestSubmit(t *testing.T) {
	inDo.expect(t, "submit buy of 1q market", "submit@0 market buy@7 1q@14;")
	inDo.expect(t, "submit buy of 1q market as o", "submit@0 market buy@7 1q@14 o;")
	for _, kind := range []string{"limit", "ioc", "fok", "post"} {
		inDo.expect(t, "submit sell of 1q at 2p "+kind, "submit@0 "+kind+" sell@7 1q@15 2p@21;")
		inDo.expect(t, "submit sell of 1q at 2p "+kind+" as o", "submit@0 "+kind+" sell@7 1q@15 2p@21 o;")
		inDo.expect(t, "submit s?buy:sell of -n*2 at ask+1p "+kind, "submit@0 "+kind+" (?@8 $s@7 buy@9 sell@13) (*@23 (-@21 $n@22) 2@24) (+@32 ask@29 1p@33);")
		inDo.expectNo(t, "submit sell of 1q "+kind, wrongToken, 18)
		inDo.expectNo(t, "submit sell of 1q at "+kind, wrongToken, 21)
		inDo.expectNo(t, "submit sell of 1q market "+kind, wrongToken, 25)
		inDo.expectNo(t, "submit sell of 1q "+kind+" at 2p", wrongToken, 18)
		inDo.expectNo(t, "submit sell of 1q at 2p "+kind+" "+kind, wrongToken, 25+len(kind))
		inDo.expectNo(t, "submit sell of 1q at 2p "+kind+" market", wrongToken, 25+len(kind))
		inDo.expectNo(t, "submit sell of 1q at 2p "+kind+" as", wrongToken, 27+len(kind))
		inDo.expectNo(t, "submit sell of 1q at 2p "+kind+" o", wrongToken, 25+len(kind))
		inDo.expectNo(t, "submit sell of 1q at 2p "+kind+" as o as p", wrongToken, 30+len(kind))
	}
	for _, c := range []struct {
		s  string
		at int
	}{
		{"submit", 6}, {"submit of 1q market", 7}, {"submit buy", 10}, {"submit buy 1q market", 11}, {"submit buy of", 13}, {"submit buy of market", 14}, {"submit buy of 1q", 16}, {"submit buy of 1q at", 19},
		{"submit buy of 1q at 2p", 22}, {"submit buy of 1q at 2p market", 23}, {"submit buy of 1q market at 2p", 24}, {"submit buy of 1q 2p limit", 17}, {"submit buy of 1q at 2p as o", 23}, {"submit buy of 1q as o", 17},
		{"submit submit buy of 1q market", 7}, {"submit buy sell of 1q market", 11}, {"submit buy of of 1q market", 14}, {"submit buy of 1q 1q market", 17}, {"submit buy of 1q market market", 24}, {"submit buy of 1q at at 2p limit", 20}, {"submit buy of 1q at 2p 2p limit", 23},
		{"submit buy at 2p of 1q limit", 11}, {"submit 1q of at 2p limit", 13}, {"buy submit of 1q market", 0}, {"submit buy of 1q market o as", 24}, {"submit buy of 1q as o market", 17}, {"submit buy of 1q limit at 2p", 17},
		{"submit buy of 1q market as 1", 27}, {"submit buy of 1q market as o p", 29}, {"submit buy to 1q market", 11}, {"submit buy of 1q to 2p limit", 17},
	} {
		inDo.expectNo(t, c.s, wrongToken, c.at)
	}
}

func TestOtherThingsDone(t *testing.T) {
	inDo.expect(t, "amend o to 1q at 2p", "amend@0 1q@11 2p@17 o;")
	inDo.expect(t, "amend o to a?b:c at d||e", "amend@0 (?@12 $a@11 $b@13 $c@15) (||@21 $d@20 $e@23) o;")
	inDo.expect(t, "cancel o", "cancel@0 o;")
	inDo.expect(t, "set n=n+1", "set@0 (+@7 $n@6 1@8) n;")
	inDo.expect(t, "set n = a == b", "set@0 (==@10 $a@8 $b@13) n;")
	inDo.expect(t, "goto a", "goto@0 a;")
	inDo.expect(t, "halt", "halt@0;")
	for _, c := range []struct {
		s  string
		at int
	}{
		{"amend", 5}, {"amend to 1q at 2p", 6}, {"amend o 1q at 2p", 8}, {"amend o to at 2p", 11}, {"amend o to 1q 2p", 14}, {"amend o to 1q", 13}, {"amend o to 1q at", 16}, {"amend o", 7}, {"amend o to", 10},
		{"amend amend o to 1q at 2p", 6}, {"amend o o to 1q at 2p", 8}, {"amend o to to 1q at 2p", 11}, {"amend o to 1q 1q at 2p", 14}, {"amend o to 1q at at 2p", 17}, {"amend o to 1q at 2p 2p", 20}, {"amend o to 1q at 2p at 2p", 20},
		{"amend to o 1q at 2p", 6}, {"amend o at 2p to 1q", 8}, {"o amend to 1q at 2p", 0}, {"amend o of 1q at 2p", 8}, {"amend 1 to 1q at 2p", 6}, {"amend o to 1q at 2p limit", 20}, {"amend o to 1q at 2p as p", 20}, {"amend o=1q", 7},
		{"cancel", 6}, {"cancel cancel o", 7}, {"cancel o o", 9}, {"o cancel", 0}, {"cancel 1", 7}, {"cancel(o)", 6}, {"cancel -o", 7}, {"cancel o+p", 8},
		{"set", 3}, {"set =1", 4}, {"set n 1", 6}, {"set n=", 6}, {"set set n=1", 4}, {"set n n=1", 6}, {"set n==1", 5}, {"set n= =1", 7}, {"set n=1 1", 8}, {"set =n 1", 4}, {"n set=1", 0}, {"set n 1=", 6}, {"set 1=1", 4}, {"set n=1=2", 7}, {"n=1", 0}, {"set n:1", 5},
		{"goto", 4}, {"goto goto a", 5}, {"goto a a", 7}, {"a goto", 0}, {"goto 1", 5}, {"goto state a", 5}, {"goto a{}", 6},
		{"halt halt", 5}, {"halt a", 5}, {"halt()", 4}, {"halt 1", 5}, {"", 0},
	} {
		inDo.expectNo(t, c.s, wrongToken, c.at)
	}
}

// A text that is cut off behind each of its tokens ends too soon there, with whatever blanks and remarks behind it.
func TestTextsThatEndTooSoon(t *testing.T) {
	for _, s := range seedStrategies {
		l := strings.Fields(s)
		for i := range len(l) {
			cut := strings.Join(l[:i], " ")
			expectNoStrategy(t, cut, wrongToken, len(cut))
			expectNoStrategy(t, cut+" # so", wrongToken, len(cut)+5)
			expectNoStrategy(t, cut+"\n ", wrongToken, len(cut)+2)
		}
		expectNoStrategy(t, s+" "+s, wrongToken, len(s)+1)
	}
}

func TestNothingButBlanksAndRemarks(t *testing.T) {
	for _, s := range []string{"", " ", "\n", "\t\r\n  ", "#", "# so", "# so\n", "#\n#\n", " # strategy s{state a{}}", strings.Repeat(" ", most), "#" + strings.Repeat("x", most-1)} {
		expectNoExpr(t, s, wrongToken, len(s))
		expectNoStrategy(t, s, wrongToken, len(s))
	}
}
