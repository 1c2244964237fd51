package lower_test

import (
	"errors"
	"reflect"
	"strings"
	"testing"

	"tripwire/api"
	"tripwire/cost"
	"tripwire/lower"
	"tripwire/parse"
	"tripwire/types"
)

// wrongNodes may not be, each for another reason.
func wrongNodes() []api.Node {
	a := reg("i")
	return []api.Node{
		{}, {At: 3}, {Kind: 10}, {Kind: 255}, {Kind: api.NodeLit}, {Name: "i"}, {Kids: []api.Node{a}},
		lit(0, 1), lit(7, 1), lit(1, -1), lit(2, least), lit(5, 2), lit(5, -1), lit(6, 0), lit(6, 3), lit(255, 0),
		reg(""), reg("bid"), reg("A"), reg("1"), reg("a b"), reg(longName + "q"), reg("true"), reg("_a"), reg("i "), reg("-i"),
		field(0), field(7), field(255), has(0), has(4), has(5), has(6), has(7),
		unary(0, a), unary(3, a), unary(1), unary(1, a, a), unary(7, a),
		binary(5, a, a), binary(19, a, a), binary(6, a), binary(6, a, a, a), binary(1, a, a), binary(0, a, a), binary(6),
		cond(), cond(has(1), a), cond(has(1), a, a, a),
		call(3), call(3, a, a), call(4, a), call(5, a, a, a), call(2, a), call(6, a, a), call(0, a),
		conv(0, a), conv(5, a), conv(6, a), conv(1), conv(1, a, a), conv(255, a), conv(1, a, a, a, a, a),
		{Kind: api.NodeLit, Type: 1, Name: "i"}, {Kind: api.NodeReg, Name: "i", N: 1}, {Kind: api.NodeField, Field: 1, Name: "i"}, {Kind: api.NodeHas, Field: 1, N: -1},
		{Kind: api.NodeCond, Oper: 6, Kids: []api.Node{has(1), a, a}}, {Kind: api.NodeConv, Type: 1, Oper: 3, Kids: []api.Node{a}},
	}
}

// deepNode is one level too deep, and else fits.
func deepNode() api.Node {
	return grown(reg("i"), deepest+1, func(n api.Node) api.Node { return unary(api.OperNeg, n) })
}

// doAt is the same at another place.
func doAt(place int, d api.Do) api.Do {
	d.At = place
	return d
}

// refused is a strategy that is refused, and why, and at which place.
type refused struct {
	s     api.Strategy
	no    api.Errno
	place int
}

// refusedOfEach are refused for each error of the chapters below.
func refusedOfEach() []refused {
	b := reg("b")
	fine := func(change func(s *api.Strategy)) api.Strategy {
		s := full(rule(b, cancel("o"), halt()))
		change(&s)
		return s
	}
	return []refused{
		{fine(func(s *api.Strategy) { s.Regs[1].Name = "i" }), twice, 102},
		{fine(func(s *api.Strategy) { s.Slots[1].Name = "o" }), twice, 108},
		{fine(func(s *api.Strategy) { s.States[1].Name = "a" }), twice, 110},
		{full(rule(at(9, reg("zz")), halt())), none, 9},
		{full(rule(b, doAt(8, cancel("zz")))), none, 8},
		{full(rule(b, doAt(7, goTo("zz")))), none, 7},
		{full(rule(binary(api.OperAnd, falsely(), at(6, reg("zz"))), halt())), none, 6},
		{fine(func(s *api.Strategy) { s.Regs[0].Init = lots() }), fit, 101},
		{full(rule(at(6, num(1)), halt())), fit, 6},
		{full(rule(b, set("i", at(5, binary(api.OperAdd, num(1), lots()))))), fit, 5},
		{full(rule(b, set("i", at(5, cond(truly(), num(1), lots()))))), fit, 5},
		{full(rule(b, halt(), doAt(4, halt()))), last, 4},
		{full(rule(b, goTo("a"), doAt(3, cancel("o")))), last, 3},
		{api.Strategy{}, wrongForm, 0},
		{fine(func(s *api.Strategy) { s.Name = "" }), wrongForm, 0},
		{full(rule(b)), wrongForm, 0},
		{full(rule(at(2, api.Node{}), halt())), wrongForm, 0},
		{full(rule(b, api.Do{At: 2})), wrongForm, 0},
		{fine(func(s *api.Strategy) { s.States = times(13, s.States[0]) }), tooMany, 0},
		{full(times(13, rule(b, halt()))...), tooMany, 0},
		{full(rule(b, times(9, cancel("o"))...)), tooMany, 0},
		{full(rule(b, set("i", at(2, deepNode())))), tooDeep, 0},
		{full(rule(row(api.OperAnd, b, b, 250), halt())), tooMuch, 0},
		{full(rule(row(api.OperAnd, truly(), truly(), 250), halt())), tooMuch, 0},
	}
}

// What cost.Strategy refuses is refused by its own error, as it is.
func TestStrategiesThatAreRefused(t *testing.T) {
	reached := map[api.Errno]int{}
	for _, x := range refusedOfEach() {
		_, want := cost.Strategy(x.s)
		expectFound(t, want, x.no, x.place)
		expectRefused(t, x.s, want)
		reached[x.no]++
	}
	for _, no := range []api.Errno{twice, none, fit, last, wrongForm, tooMany, tooDeep, tooMuch} {
		if reached[no] == 0 {
			t.Errorf("%d was not reached", no)
		}
	}
	// All that it has: calls, places, what lies within.
	expectRefused(t, full(rule(at(5, reg("zz")), halt())), &api.Failure{Call: "Check", At: 5, Err: &api.Failure{Call: "Of", At: 5, Err: none}})
	expectRefused(t, full(rule(reg("b"), doAt(7, goTo("zz")))), &api.Failure{Call: "Check", At: 7, Err: none})
	expectRefused(t, api.Strategy{}, &api.Failure{Call: "Check", At: 0, Err: wrongForm})
	expectRefused(t, full(rule(row(api.OperAnd, truly(), truly(), 250), halt())), &api.Failure{Call: "Strategy", At: 0, Err: tooMuch})
}

// Wherever an expression stands that may not be, or that has no type: also where folding would take it away.
func TestStrategiesWithWrongExpressions(t *testing.T) {
	b := reg("b")
	for _, with := range []func(n api.Node) api.Rule{
		func(n api.Node) api.Rule { return rule(n, halt()) },
		func(n api.Node) api.Rule { return rule(b, submit("o", n, lots(), price())) },
		func(n api.Node) api.Rule { return rule(b, submit("", buy(), n, price())) },
		func(n api.Node) api.Rule { return rule(b, submit("u", buy(), lots(), n)) },
		func(n api.Node) api.Rule { return rule(b, market("u", n, lots())) },
		func(n api.Node) api.Rule { return rule(b, amend("o", n, price())) },
		func(n api.Node) api.Rule { return rule(b, amend("o", lots(), n)) },
		func(n api.Node) api.Rule { return rule(falsely(), set("t", n)) },
	} {
		for _, n := range wrongNodes() {
			expectRefused(t, full(with(at(44, n))), &api.Failure{Call: "Check", Err: wrongForm})
			expectRefused(t, full(with(cond(truly(), truly(), n))), &api.Failure{Call: "Check", Err: wrongForm})
		}
		expectRefused(t, full(with(at(44, deepNode()))), &api.Failure{Call: "Check", Err: tooDeep})
		expectRefused(t, full(with(at(44, reg("zz")))), &api.Failure{Call: "Check", At: 44, Err: &api.Failure{Call: "Of", At: 44, Err: none}})
		expectRefused(t, full(with(at(44, cond(truly(), at(45, reg("b")), at(46, reg("zz")))))), &api.Failure{Call: "Check", At: 46, Err: &api.Failure{Call: "Of", At: 46, Err: none}})
		expectRefused(t, full(with(at(44, num(1)))), &api.Failure{Call: "Check", At: 44, Err: fit})
	}
}

// A text's errors stand within one of Source, at their own places: those of its tokens and of its grammar,
func TestTextsThatAreNoTrees(t *testing.T) {
	for text, want := range map[string]struct {
		no api.Errno
		at int
	}{
		"": {api.ErrParseToken, 0}, "strategy s {": {api.ErrParseToken, 12}, "strategy s{}": {api.ErrParseToken, 11}, "strategy s{state a{when true do halt}}": {api.ErrParseToken, 36}, exampleText + "x": {api.ErrParseToken, len(exampleText)},
		"strategy s { state a { when & do halt; } }": {api.ErrLexByte, 28}, "strategy s { state a { when 007 do halt; } }": {api.ErrLexNumber, 28}, "strategy " + longName + "q {": {api.ErrLexName, 9}, strings.Repeat(" ", 4097): {api.ErrLexLong, 0}, "\xff": {api.ErrLexByte, 0},
		"strategy s {" + strings.Repeat("slot o;", 5) + "state a {} }": {api.ErrParseMany, 40}, "strategy s {" + strings.Repeat("state a{}", 13) + "}": {api.ErrParseMany, 120},
		"strategy s { state a { when " + strings.Repeat("!", 25) + "true do halt; } }": {api.ErrParseNest, 52},
	} {
		_, within := parse.Strategy(text)
		expectNoSource(t, text, within, want.no, want.at)
	}
	expectNoSource(t, "strategy s {", &api.Failure{Call: "Strategy", At: 12, Err: api.ErrParseToken}, api.ErrParseToken, 12)
	expectNoSource(t, "strategy s {&", &api.Failure{Call: "Strategy", At: 12, Err: &api.Failure{Call: "Tokens", At: 12, Err: api.ErrLexByte}}, api.ErrLexByte, 12)
}

// and those of names and types, and of what it costs.
func TestTextsThatAreRefused(t *testing.T) {
	for text, want := range map[string]struct {
		no api.Errno
		at int
	}{
		"strategy s { reg n int = 1; reg n qty = 1q; state a {} }": {twice, 28}, "strategy s { slot o; slot o; state a {} }": {twice, 21}, "strategy s { state a {} state b {} state a {} }": {twice, 35},
		"strategy s { reg n int = 1q; state a {} }": {fit, 13}, "strategy s { state a { when bid do halt; } }": {fit, 28}, "strategy s { state a { when 1 + 1q == 2 do halt; } }": {fit, 30}, "strategy s { state a { when true || 1 do halt; } }": {fit, 33},
		"strategy s { state a { when true do goto b; } }": {none, 36}, "strategy s { state a { when zz do halt; } }": {none, 28}, "strategy s { state a { when false && zz do halt; } }": {none, 37}, "strategy s { state a { when true do cancel o; } }": {none, 36},
		"strategy s { state a { when true do halt, halt; } }": {last, 42}, "strategy s { state a { when true" + strings.Repeat(" && true", 250) + " do halt; } }": {tooMuch, 0},
	} {
		s, err := parse.Strategy(text)
		if err != nil {
			t.Fatal(text, told(err))
		}
		_, within := cost.Strategy(s)
		expectNoSource(t, text, within, want.no, want.at)
		if want.no != tooMuch {
			expectNoSource(t, text, types.Check(s), want.no, want.at)
		}
	}
	expectNoSource(t, "strategy s { state a { when zz do halt; } }", &api.Failure{Call: "Check", At: 28, Err: &api.Failure{Call: "Of", At: 28, Err: none}}, none, 28)
	expectNoSource(t, "strategy s { state a { when true"+strings.Repeat("&&true", 250)+" do halt; } }", &api.Failure{Call: "Strategy", At: 0, Err: tooMuch}, tooMuch, 0)
}

// Each failure on the way is found, from the outermost one on.
func TestFailuresOnTheWay(t *testing.T) {
	for text, want := range map[string][]string{
		"strategy s {&": {"Source", "Strategy", "Tokens"}, "strategy s {": {"Source", "Strategy"}, "strategy s { state a { when zz do halt; } }": {"Source", "Check", "Of"}, "strategy s { state a { when bid do halt; } }": {"Source", "Check"},
		"strategy s { state a { when true" + strings.Repeat("&&true", 250) + " do halt; } }": {"Source", "Strategy"},
	} {
		_, _, err := lower.Source(text)
		for _, call := range want {
			var f *api.Failure
			if !errors.As(err, &f) || f != err || f.Call != call {
				t.Fatalf("%q: %s; want %v", text, told(err), want)
			}
			err = f.Unwrap()
		}
		var f *api.Failure
		if errors.As(err, &f) {
			t.Errorf("%q: %s is left behind %v", text, told(err), want)
		}
	}
	// Each is one of its own.
	text := "strategy s { state a { when zz do halt; } }"
	for range 2 {
		_, _, err := lower.Source(text)
		for {
			var f *api.Failure
			if !errors.As(err, &f) {
				break
			}
			err = f.Err
			f.Call, f.At, f.Err = "", 7, last
		}
		expectNoSource(t, text, &api.Failure{Call: "Check", At: 28, Err: &api.Failure{Call: "Of", At: 28, Err: none}}, none, 28)
	}
}

// Several wrong at once, mended one after the other: the text's tokens and grammar, names and types, steps.
func TestSeveralWrongAtOnce(t *testing.T) {
	much := strings.Repeat("&&true", 250)
	whole := "strategy s { reg n int = 1; reg n int = 2q; state a { when zz" + much + " do halt, halt; when & } }"
	for _, x := range []struct {
		from, to string
		no       api.Errno
		at       int
	}{
		{"", "", api.ErrLexByte, strings.Index(whole, "& }")},
		{"& }", "}", api.ErrParseToken, strings.Index(whole, "& }")},
		{"when }", "}", twice, 28},
		{"reg n int = 2q", "reg m int = 2q", fit, 28},
		{"2q", "2", none, 58},
		{"zz", "bid", fit, 61},
		{"bid", "true", last, 1572},
		{", halt", "", tooMuch, 0},
	} {
		whole = strings.Replace(whole, x.from, x.to, 1)
		_, _, err := lower.Source(whole)
		expectFound(t, err, x.no, x.at)
	}
	x, most, err := lower.Source(strings.Replace(whole, much, much[:6*249], 1))
	if err != nil || most != (api.Cost{Steps: 499}) || len(x.Code) != 1 {
		t.Error(written(x.Code), most, told(err))
	}
}

// Source is the table of the text's tree, and what cost.Strategy says of it: as it is written, not as it is folded.
func TestSourceIsOfItsTree(t *testing.T) {
	for _, text := range []string{
		exampleText, "strategy s{state a{}}", "strategy s { state a { when 1 + 2 > 2 && has bid do halt; } }", "# so\nstrategy s { state a { when has bid do submit buy of 1q * 2 at bid - 1p post; } state b { when true do goto a; } }",
		"strategy s { reg n qty = -3q; slot o; state a { when n < 0q do submit buy of -n market as o, goto a; } }",
	} {
		s := strategy(t, text)
		x, most, err := lower.Source(text)
		want, wantErr := cost.Strategy(s)
		if err != nil || wantErr != nil || most != want || !sameTable(x, modelTable(s)) || !sameTable(x, tableOf(t, s)) {
			t.Errorf("%q: %+v, %v, %s", text, x, most, told(err))
		}
	}
	x, most, err := lower.Source("strategy s { state a { when 1 + 2 > 2 && has bid do halt; } }")
	if err != nil || most.Steps != 7 || !reflect.DeepEqual(x.Code, code("has 1")) {
		t.Error(written(x.Code), most, told(err))
	}
}

// The longest text there can be has no more code than a table may have, and no more constants: of each instruction a byte at least is its own.
func TestAFullTextIsNotTooLong(t *testing.T) {
	text := "strategy s{reg n int=0;state a{" + strings.Repeat("when n<1 do set n="+strings.Repeat("n+", 159)+"1;", 12) + "}}"
	text += strings.Repeat(" ", 4096-len(text))
	x, most, err := lower.Source(text)
	if err != nil || most.Steps > 500 || len(x.Code) != 12*(3+319) {
		t.Errorf("%d bytes: %d instructions, %v, %s", len(text), len(x.Code), most, told(err))
	}
}
