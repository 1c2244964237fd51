package parse_test

import (
	"reflect"
	"slices"
	"strings"
	"testing"

	"tripwire/api"
	"tripwire/lex"
	"tripwire/parse"
	"tripwire/tree"
)

// The tests of this file hold the calls against the model, and look whether the rows of 'What holds' do.

// expectModelExpr tells what the model says, and that Expr says it, too.
func expectModelExpr(t *testing.T, s string) api.Errno {
	t.Helper()
	m := modelOf("expr", s)
	if m.no != api.OK {
		expectNoExpr(t, s, m.no, m.at)
		return m.no
	}
	n, err := parse.Expr(s)
	if want := exprOf(m.parts()); err != nil || !reflect.DeepEqual(n, want) {
		t.Errorf("Expr(%q) is %s, %v; want %s", short(s), short(told(n)), err, short(told(want)))
	}
	if no := tree.CheckExpr(n); no != api.OK {
		t.Errorf("Expr(%q) is %s, which may not be: %d", short(s), short(told(n)), no)
	}
	return api.OK
}

func expectModelStrategy(t *testing.T, s string) api.Errno {
	t.Helper()
	m := modelOf("strategy", s)
	if m.no != api.OK {
		expectNoStrategy(t, s, m.no, m.at)
		return m.no
	}
	x, err := parse.Strategy(s)
	if want := strategyOf(m.parts()); err != nil || !reflect.DeepEqual(x, want) {
		t.Errorf("Strategy(%q) is %s, %v; want %s", short(s), short(toldStrategy(x)), err, short(toldStrategy(want)))
	}
	if no := tree.Check(x); no != api.OK {
		t.Errorf("Strategy(%q) is %s, which may not be: %d", short(s), short(toldStrategy(x)), no)
	}
	return api.OK
}

// tokens are all that can be told apart by the grammar.
func tokens() []string {
	return slices.Concat(theWords, theMarks, []string{"x", "long_name_of_all", "0", "7q", "12p", "9223372036854775807t"})
}

// seeds are texts that have every rule of the grammar, with each of its parts.
var seedExprs = []string{
	"a ? b || c && d : e == f",
	"1 + 2q - 3p * 4t / x % y",
	"a != b || c < d && e <= f || g > h && i >= j",
	"- ! - a * ! ( b ? c : d )",
	"abs ( bid ) + min ( ask , last ) - max ( volume , now ? open : true )",
	"int ( has bid ) + qty ( has ask ) * price ( has last ) / time ( false )",
	"( ( buy ) ) == sell",
	"a ? b ? c : d : e ? f : g",
}

var seedStrategies = []string{
	"strategy s { reg n int = 1 ; reg m bool = true ; slot o ; slot p ; state a { when a < b do halt ; } state b { } }",
	"strategy s { reg n qty = - 1q ; reg m side = sell ; state a { when true do submit buy of 1q market , submit sell of - n at bid + 1p limit as o , halt ; } }",
	"strategy s { slot o ; state a { when n do amend o to 2q at 3p , cancel o , set n = min ( n , 2 ) , goto a ; when m do submit x of y at z ioc ; } }",
	"strategy s { reg a price = 2p ; reg b time = 3t ; state c { when ! a do submit x of y at z fok , submit x of y at z post as w , submit x of y market as w ; } }",
}

// face is a call that reads a text, with the rule that the text is, and what it must say.
type face struct {
	rule     string
	expect   func(t *testing.T, s string) api.Errno
	expectNo func(t *testing.T, s string, no api.Errno, at int)
}

var (
	faceExpr     = face{"expr", expectModelExpr, expectNoExpr}
	faceStrategy = face{"strategy", expectModelStrategy, expectNoStrategy}
)

// Every token at every place of a text: cut off behind it, put in between, put in the place of what stood there.
func TestEveryTokenAtEveryPlace(t *testing.T) {
	for _, seed := range seedExprs {
		expectEveryToken(t, faceExpr, seed)
	}
	for _, seed := range seedStrategies {
		expectEveryToken(t, faceStrategy, seed)
	}
}

func expectEveryToken(t *testing.T, f face, seed string) {
	t.Helper()
	stands, not := 0, 0
	l := strings.Fields(seed)
	m := newModel(f.rule)
	for i := range len(l) + 1 {
		ahead := strings.Join(append(slices.Clone(l[:i]), ""), " ")
		for _, x := range tokens() {
			texts := []string{ahead + x, ahead + x + " " + strings.Join(l[i:], " ")}
			if i < len(l) {
				texts = append(texts, ahead+x+" "+strings.Join(l[i+1:], " "))
			}
			on := m.copied()
			on.feed(tokenOf(x, len(ahead)))
			for _, s := range texts {
				if on.no != api.OK {
					f.expectNo(t, s, on.no, on.at)
					not++
				} else {
					f.expect(t, s)
					stands++
				}
			}
		}
		if i < len(l) {
			m.feed(tokenOf(l[i], len(ahead)))
		}
	}
	if stands < 10*len(l) || not < 100*len(l) {
		t.Errorf("%q: only %d can stand, %d cannot", seed, stands, not)
	}
}

// tokenOf is the token that a text is, at a place.
func tokenOf(s string, at int) api.Token {
	l, _, _ := lex.Tokens(s)
	l[0].At = at
	return l[0]
}

// Each token of a seed left out, twice, or behind the next one; and the text cut off ahead of it.
func TestTokensLeftOutAndTwice(t *testing.T) {
	refused := 0
	for _, seed := range seedExprs {
		refused += expectTurns(t, faceExpr, seed)
	}
	for _, seed := range seedStrategies {
		refused += expectTurns(t, faceStrategy, seed)
	}
	if refused < 700 {
		t.Errorf("only %d are refused", refused)
	}
}

func expectTurns(t *testing.T, f face, seed string) (refused int) {
	t.Helper()
	if f.expect(t, seed) != api.OK {
		t.Errorf("%q is not read", seed)
	}
	l := strings.Fields(seed)
	for i := range l {
		texts := [][]string{slices.Delete(slices.Clone(l), i, i+1), slices.Insert(slices.Clone(l), i, l[i]), l[:i], l[i:]}
		if i > 0 {
			turned := slices.Clone(l)
			turned[i-1], turned[i] = l[i], l[i-1]
			texts = append(texts, turned)
		}
		for _, x := range texts {
			if f.expect(t, strings.Join(x, " ")) != api.OK {
				refused++
			}
		}
	}
	return refused
}

// All rows of up to four tokens out of these: those that go on from what was refused have the same error.
func TestAllShortExpressions(t *testing.T) {
	alphabet := []string{"1", "x", "bid", "has", "now", "true", "-", "!", "+", "*", "<", "==", "&&", "||", "?", ":", "(", ")", ",", "abs", "min", "qty", "bool", "of"}
	count := map[api.Errno]int{}
	var grow func(ahead string, m *model, left int)
	grow = func(ahead string, m *model, left int) {
		end := m.copied()
		end.feed(api.Token{Kind: api.TokenEnd, At: len(ahead)})
		expectEnd(t, ahead, end)
		count[end.no]++
		if left == 0 {
			return
		}
		for _, x := range alphabet {
			on := m.copied()
			on.feed(tokenOf(x, len(ahead)))
			if on.no == api.OK {
				grow(ahead+x+" ", on, left-1)
				continue
			}
			count[on.no]++
			for _, behind := range []string{"", " x", " &"} {
				expectEnd(t, ahead+x+behind, on)
			}
		}
	}
	grow("", newModel("expr"), 4)
	if count[api.OK] < 500 || count[wrongToken] < 15000 {
		t.Errorf("reached: %v", count)
	}
}

// expectEnd tells whether Expr says what a model has come to.
func expectEnd(t *testing.T, s string, m *model) {
	t.Helper()
	n, err := parse.Expr(s)
	no, at := parse.Wrong(err)
	if no != m.no || at != m.at {
		t.Errorf("Expr(%q) is %s, %d at %d; want %d at %d", s, told(n), no, at, m.no, m.at)
	}
	if m.no == api.OK && !reflect.DeepEqual(n, exprOf(m.parts())) {
		t.Errorf("Expr(%q) is %s; want %s", s, told(n), told(exprOf(m.parts())))
	}
}

// derived is a row of tokens that a rule of the grammar is, drawn: of some tokens more than there is room for, at most.
func derived(rule string, below func(int) int, room int) []string {
	var all []string
	var derive func(p *piece)
	derive = func(p *piece) {
		switch p.form {
		case '"':
			all = append(all, p.text)
		case 'N':
			all = append(all, []string{"a", "n", "o", "x9_y", "long_name_of_all"}[below(5)])
		case '#':
			all = append(all, []string{"0", "1", "7q", "12p", "3t", "9223372036854775807"}[below(6)])
		case 'r':
			derive(rules[p.text])
		case '|':
			kids := p.kids
			if len(all) >= room {
				kids = slices.DeleteFunc(slices.Clone(kids), func(kid *piece) bool { return kid.height > p.height })
			}
			derive(kids[below(len(kids))])
		case '[', '{':
			for range 3 {
				if len(all) < room && below(3) == 0 {
					derive(p.kids[0])
					if p.form == '[' {
						break
					}
				}
			}
		default:
			for _, kid := range p.kids {
				derive(kid)
			}
		}
	}
	derive(rules[rule])
	return all
}

// spoiled is the row with a token of it changed, or two, so that it may go wrong there.
func spoiled(l []string, below func(int) int) []string {
	l = slices.Clone(l)
	for range 1 + below(2) {
		i := below(len(l) + 1)
		x := tokens()[below(len(tokens()))]
		if below(8) == 0 {
			x = []string{"&", "|", "A", "007", "1x", "abcdefghijklmnopq", "$", "\x00"}[below(8)]
		}
		switch {
		case i == len(l) || below(3) == 0:
			l = slices.Insert(l, i, x)
		case below(2) == 0:
			l[i] = x
		default:
			l = slices.Delete(l, i, i+1)
		}
	}
	return l
}

// laid is a row of tokens as a text, with blanks and remarks between them.
func laid(l []string, below func(int) int) string {
	var b strings.Builder
	gap := func() string {
		return []string{" ", "\n", "\t", "\r\n", "  ", "# so\n", "#\n", " #&A007\n "}[below(8)]
	}
	if below(2) == 0 {
		b.WriteString(gap())
	}
	for _, x := range l {
		b.WriteString(x + gap())
	}
	return b.String()
}

func TestDrawnExpressions(t *testing.T) {
	below := draw(1)
	reached := map[api.Errno]int{}
	for i := range 4000 {
		l := derived("expr", below, i%60)
		if i%2 == 1 {
			l = spoiled(l, below)
		}
		s := strings.Join(l, " ")
		if i%3 == 0 {
			s = laid(l, below)
		}
		reached[expectModelExpr(t, s)]++
	}
	expectReached(t, reached, map[api.Errno]int{api.OK: 1500, wrongToken: 1000, tooDeep: 50, wrongByte: 50, wrongNumber: 20, wrongName: 10})
}

func TestDrawnStrategies(t *testing.T) {
	below := draw(2)
	reached := map[api.Errno]int{}
	for i := range 3000 {
		l := derived("strategy", below, 10+i%90)
		if i%2 == 1 {
			l = spoiled(l, below)
		}
		s := strings.Join(l, " ")
		if i%3 == 0 {
			s = laid(l, below)
		}
		reached[expectModelStrategy(t, s)]++
	}
	expectReached(t, reached, map[api.Errno]int{api.OK: 1000, wrongToken: 800, tooDeep: 100, wrongByte: 40, wrongNumber: 20, wrongName: 10})
}

// Strategies with as many of a kind as may be, or one more or less, of which some go wrong elsewhere, too.
func TestDrawnCounts(t *testing.T) {
	below := draw(3)
	reached := map[api.Errno]int{}
	times := func(most int) int {
		if below(3) > 0 {
			return below(3)
		}
		return most - 1 + below(3)
	}
	repeat := func(n int, one func() string) string {
		var b strings.Builder
		for range n {
			b.WriteString(one())
		}
		return b.String()
	}
	for range 1500 {
		text := func(s string) func() string { return func() string { return s } }
		rule := func() string {
			return "when min(1,2)<n do halt" + repeat(times(8)-1, text(",set n=max(n,3)")) + ";"
		}
		state := func() string { return "state a{" + repeat(times(12), rule) + "}" }
		s := "strategy s{" + repeat(times(12), text("reg n int=1;")) + repeat(times(4), text("slot o;")) + state() + repeat(times(12)-1, state) + "}"
		if below(3) == 0 {
			at := below(len(s))
			s = s[:at] + []string{"&", ";", "}", "{", ",", " 007", "reg n int=1;", "slot o;"}[below(8)] + s[at:]
		}
		reached[expectModelStrategy(t, s)]++
	}
	expectReached(t, reached, map[api.Errno]int{api.OK: 200, wrongToken: 100, tooMany: 300, tooLong: 1, wrongByte: 15, wrongNumber: 15})
}

// Expressions that go down as deep as may be, or a bit more or less, by all that goes down.
func TestDrawnNests(t *testing.T) {
	below := draw(4)
	reached := map[api.Errno]int{}
	for range 2000 {
		s, behind := "", ""
		for range 18 + below(14) {
			from := []string{"(|)", "-|", "!|", "abs(|)", "min(|,1)", "max(2 ,|)", "int(|)", "qty(|)", "price(|)", "time (|)", "a?|:b", "a ? b:|", "(-|)", "1+(|)*2", "x <(|)", "|+1", "1 *|", "(|)&&c"}[below(18)]
			if below(100) == 0 {
				from = []string{"&|", "| 1", "has now|", "1x|", "1 < 2 < |"}[below(5)]
			}
			ahead, after, _ := strings.Cut(from, "|")
			s += ahead
			behind = after + behind
		}
		reached[expectModelExpr(t, s+"n"+behind)]++
	}
	expectReached(t, reached, map[api.Errno]int{api.OK: 150, tooDeep: 300, wrongToken: 150, wrongByte: 15, wrongNumber: 10})
}

func expectReached(t *testing.T, reached, want map[api.Errno]int) {
	t.Helper()
	for no, n := range want {
		if reached[no] < n {
			t.Errorf("%d was reached %d times; want %d", no, reached[no], n)
		}
	}
	for no := range reached {
		if _, is := want[no]; !is {
			t.Errorf("%d was reached %d times", no, reached[no])
		}
	}
}

// Texts with the same tokens but for places have the same tree but for places, or the same error at the token that corresponds.
func TestOneTreeOfTheSameTokens(t *testing.T) {
	below := draw(5)
	counts := map[api.Errno]int{}
	for i := range 2500 {
		rule := []string{"expr", "strategy"}[i%2]
		l := derived(rule, below, i%80)
		if i%3 > 0 {
			l = spoiled(l, below)
		}
		one, two := laid(l, below), laid(l, below)
		if i%2 == 0 {
			a, err := parse.Expr(one)
			b, err2 := parse.Expr(two)
			if !tree.SameExpr(a, b) {
				t.Errorf("%s and %s of the same tokens", told(a), told(b))
			}
			counts[expectAlike(t, one, two, err, err2)]++
		} else {
			a, err := parse.Strategy(one)
			b, err2 := parse.Strategy(two)
			if !tree.Same(a, b) {
				t.Errorf("%s and %s of the same tokens", toldStrategy(a), toldStrategy(b))
			}
			counts[expectAlike(t, one, two, err, err2)]++
		}
	}
	if counts[api.OK] < 800 || counts[wrongToken] < 1000 || counts[wrongByte] < 30 {
		t.Errorf("reached: %v", counts)
	}
}

// expectAlike holds the errors of two texts with the same tokens against one another.
func expectAlike(t *testing.T, one, two string, err, err2 error) api.Errno {
	t.Helper()
	no, at := parse.Wrong(err)
	no2, at2 := parse.Wrong(err2)
	if no != no2 || no != api.OK && tokensAhead(one, at) != tokensAhead(two, at2) {
		t.Errorf("%q: %d at %d; %q: %d at %d", one, no, at, two, no2, at2)
	}
	if at < 0 || at > len(one) {
		t.Errorf("%q: %d at %d", one, no, at)
	}
	return no
}

// tokensAhead is how many tokens stand ahead of a place.
func tokensAhead(s string, at int) int {
	n := 0
	for x := range lex.All(s) {
		if x.At < at {
			n++
		}
	}
	return n
}

// What stands behind the token that ends a text changes nothing of the error.
func TestWhatStandsBehindChangesNothing(t *testing.T) {
	below := draw(6)
	counts := map[api.Errno]int{}
	for i := range 3000 {
		rule := []string{"expr", "strategy"}[i%2]
		l := spoiled(derived(rule, below, i%80), below)
		read := func(s string) (api.Errno, int) {
			if i%2 == 0 {
				_, err := parse.Expr(s)
				return parse.Wrong(err)
			}
			_, err := parse.Strategy(s)
			return parse.Wrong(err)
		}
		s := strings.Join(l, " ")
		no, at := read(s)
		if no == api.OK || at == len(s) {
			continue
		}
		counts[no]++
		// What is no token goes on to the next blank: all that makes it none stands within.
		upto := strings.IndexByte(s[at:]+" ", ' ') + at
		for _, behind := range []string{"", " ", " &", " 1 + 2", " }", " # so", s[upto:] + s[upto:], "\n007"} {
			if no2, at2 := read(s[:upto] + behind); no2 != no || at2 != at {
				t.Errorf("%q: %d at %d; with %q behind: %d at %d", s, no, at, behind, no2, at2)
			}
		}
	}
	if counts[wrongToken] < 800 || counts[wrongByte] < 30 || counts[wrongNumber] < 20 || counts[wrongName] < 10 {
		t.Errorf("reached: %v", counts)
	}
}

// Whatever bytes a text has, each call ends with a tree that may be, or with a place within the text.
func TestAnyBytes(t *testing.T) {
	below := draw(7)
	bytes := "abidhs 0179qp{}(),;?:=!<>+-*/%&|#\n\x00\xffA_"
	for range 20000 {
		b := make([]byte, below(12))
		for i := range b {
			b[i] = bytes[below(len(bytes))]
		}
		expectModelExpr(t, string(b))
		expectModelStrategy(t, string(b))
		expectModelStrategy(t, "strategy s{state a{when "+string(b))
	}
}
