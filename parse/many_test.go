package parse_test

import (
	"strings"
	"testing"

	"tripwire/api"
	"tripwire/lex"
	"tripwire/parse"
)

// counted is a thing of which there may be so many: what stands ahead of all of them, one of them (its first token is the one that may be too many), what stands behind.
type counted struct {
	what               string
	ahead, one, behind string
	fewest, most       int
	of                 func(s api.Strategy) int
}

var counteds = []counted{
	{"registers", "strategy s{", "reg n int=1;", "state a{}}", 0, 12, func(s api.Strategy) int { return len(s.Regs) }},
	{"slots", "strategy s{", "slot o;", "state a{}}", 0, 4, func(s api.Strategy) int { return len(s.Slots) }},
	{"states", "strategy s{", "state a{}", "}", 1, 12, func(s api.Strategy) int { return len(s.States) }},
	{"rules", "strategy s{state a{", "when true do halt;", "}}", 0, 12, func(s api.Strategy) int { return len(s.States[0].Rules) }},
	{"things done behind the first", "strategy s{state a{when true do goto b", ",halt", ";}}", 0, 7, func(s api.Strategy) int { return len(s.States[0].Rules[0].Dos) - 1 }},
}

func TestCounts(t *testing.T) {
	for _, c := range counteds {
		for n := range c.most + 4 {
			s := c.ahead + strings.Repeat(c.one, n) + c.behind
			switch {
			case n < c.fewest:
				expectNoStrategy(t, s, wrongToken, len(c.ahead))
			case n > c.most:
				expectNoStrategy(t, s, tooMany, len(c.ahead)+c.most*len(c.one))
			default:
				x, err := parse.Strategy(s)
				if err != nil || c.of(x) != n {
					t.Errorf("%d %s: %v", n, c.what, err)
				}
			}
		}
	}
}

// The token that is one too many ends the text: whatever stands behind it, and nothing of what it begins is looked at.
func TestOneTooManyWithSomethingWrongBehind(t *testing.T) {
	for _, c := range counteds {
		full := c.ahead + strings.Repeat(c.one, c.most)
		x, _, _ := lex.Next(c.one, 0)
		first := x.Text
		for _, behind := range []string{"", " ", " &", " 007", " }", " " + first, " ((((((((((((((((((((((((((", " # so", " x y z", " abcdefghijklmnopq"} {
			expectNoStrategy(t, full+first+behind, tooMany, len(full))
			expectNoStrategy(t, full+" \n"+first+behind, tooMany, len(full)+2)
		}
		// Something wrong ahead of it, or in its place, comes first.
		expectNoStrategy(t, full+" & "+c.one, wrongByte, len(full)+1)
		expectNoStrategy(t, full+" 007 "+c.one, wrongNumber, len(full)+1)
		expectNoStrategy(t, full+" x "+c.one, wrongToken, len(full)+1)
		expectNoStrategy(t, full+" ( "+c.one, wrongToken, len(full)+1)
		expectNoStrategy(t, full, wrongToken, len(full))
		expectNoStrategy(t, "x"+full+c.one, wrongToken, 0)
	}
}

// One too many can stand only where one could begin: elsewhere it cannot stand at all.
func TestOneTooManyWhereItCannotStand(t *testing.T) {
	regs, slots := strings.Repeat("reg n int=1;", 12), strings.Repeat("slot o;", 4)
	expectNoStrategy(t, "strategy s{"+regs+"slot o;reg n int=1;state a{}}", wrongToken, 11+12*12+7)
	expectNoStrategy(t, "strategy s{"+regs+"state a{}reg n int=1;}", wrongToken, 11+12*12+9)
	expectNoStrategy(t, "strategy s{"+slots+"state a{}slot o;}", wrongToken, 11+4*7+9)
	expectNoStrategy(t, "strategy s{"+regs+slots+"reg n int=1;", wrongToken, 11+12*12+4*7)
	expectNoStrategy(t, "strategy s{"+regs+slots+"slot o;", tooMany, 11+12*12+4*7)
	expectNoStrategy(t, "strategy s{"+strings.Repeat("state a{}", 12)+"}state a{}", wrongToken, 11+12*9+1)
	expectNoStrategy(t, "strategy s{state a{"+strings.Repeat("when true do halt;", 12)+"}when true do halt;", wrongToken, 19+12*18+1)
	expectNoStrategy(t, "strategy s{state a{when true do halt"+strings.Repeat(",halt", 7)+";,halt", wrongToken, 36+7*5+1)
	// The comma of min and max is none of those that are counted.
	do := "set n=min(1,max(2,3))"
	x, err := parse.Strategy(inDo.ahead + do + strings.Repeat(","+do, 7) + inDo.behind)
	if err != nil || len(x.States[0].Rules[0].Dos) != 8 {
		t.Errorf("8 things done: %v", err)
	}
	inDo.expectNo(t, do+strings.Repeat(","+do, 8), tooMany, 8*len(do)+7)
	inDo.expectNo(t, "halt"+strings.Repeat(",halt", 6)+",set n=min(1", wrongToken, 4+6*5+12)
	inDo.expectNo(t, "halt"+strings.Repeat(",halt", 7)+",set n=min(1", tooMany, 4+7*5)
}

// Rules are counted state by state, things done rule by rule; with all of them at their most the text is still one.
func TestCountsBeginAnew(t *testing.T) {
	rules := strings.Repeat("when a do halt;", 12)
	x, err := parse.Strategy("strategy s{" + strings.Repeat("state a{"+rules+"}", 12) + "}")
	if err != nil || len(x.States) != 12 || len(x.States[0].Rules) != 12 || len(x.States[11].Rules) != 12 {
		t.Errorf("12 states of 12 rules: %v", err)
	}
	dos := "when a do halt" + strings.Repeat(",halt", 7) + ";"
	x, err = parse.Strategy("strategy s{state a{" + strings.Repeat(dos, 12) + "}state b{" + strings.Repeat(dos, 12) + "}}")
	if err != nil || len(x.States[0].Rules[11].Dos) != 8 || len(x.States[1].Rules[11].Dos) != 8 {
		t.Errorf("24 rules that do 8 things: %v", err)
	}
	ahead := "strategy s{state a{" + rules + "}state b{" + rules
	expectNoStrategy(t, ahead+"when a do halt;}}", tooMany, len(ahead))
	ahead = "strategy s{state a{" + strings.Repeat(dos, 11) + dos[:len(dos)-1]
	expectNoStrategy(t, ahead+",halt;}}", tooMany, len(ahead))
}

// Of several that are too many the first one is told.
func TestSeveralTooMany(t *testing.T) {
	regs, slots, states := strings.Repeat("reg n int=1;", 13), strings.Repeat("slot o;", 5), strings.Repeat("state a{}", 13)
	expectNoStrategy(t, "strategy s{"+regs+slots+states+"}", tooMany, 11+12*12)
	expectNoStrategy(t, "strategy s{"+slots+states+"}", tooMany, 11+4*7)
	expectNoStrategy(t, "strategy s{"+states+"}", tooMany, 11+12*9)
	rules := strings.Repeat("when true do halt"+strings.Repeat(",halt", 8)+";", 13)
	expectNoStrategy(t, "strategy s{state a{"+rules+"}}", tooMany, 19+17+7*5)
}
