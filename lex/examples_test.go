package lex_test

import (
	"math"
	"slices"
	"strings"
	"testing"

	"tripwire/api"
	"tripwire/lex"
)

const (
	wrongArg    = api.ErrArg
	tooLong     = api.ErrLexLong
	wrongByte   = api.ErrLexByte
	wrongName   = api.ErrLexName
	wrongNumber = api.ErrLexNumber

	least, greatest = math.MinInt64, math.MaxInt64

	// most is how many bytes a text may have, longest how many a name.
	most    = 4096
	longest = 16

	letters  = "abcdefghijklmnopqrstuvwxyz"
	capitals = "ABCDEFGHIJKLMNOPQRSTUVWXYZ"
	digits   = "0123456789"
	blanks   = " \t\n\r"
)

// The chapter's lists.
var (
	theWords = strings.Fields("abs amend as ask at bid bool buy cancel do false fok goto halt has int ioc last limit market max min now of open post price qty reg sell set side slot state strategy submit time to true volume when")
	theMarks = strings.Fields("{ } ( ) , ; ? : = == ! != < <= > >= + - * / % && ||")
)

func end(at int) api.Token { return api.Token{Kind: api.TokenEnd, At: at} }

func word(text string, at int) api.Token {
	return api.Token{Kind: api.TokenWord, Text: text, At: at}
}

func name(text string, at int) api.Token {
	return api.Token{Kind: api.TokenName, Text: text, At: at}
}

func mark(text string, at int) api.Token {
	return api.Token{Kind: api.TokenMark, Text: text, At: at}
}

func number(text string, kind api.Type, n int64, at int) api.Token {
	return api.Token{Kind: api.TokenNumber, Text: text, Type: kind, N: n, At: at}
}

// said is the kind of what is made of letters, digits and '_'.
func said(text string, at int) api.Token {
	if slices.Contains(theWords, text) {
		return word(text, at)
	}
	return name(text, at)
}

// short is a text as a fault is told.
func short(s string) string {
	if len(s) > 60 {
		return s[:60] + ".."
	}
	return s
}

func expectTokens(t *testing.T, s string, want ...api.Token) {
	t.Helper()
	if l, no, at := lex.Tokens(s); !slices.Equal(l, want) || no != api.OK || at != 0 {
		t.Errorf("Tokens(%q) is %+v, %d, %d; want %+v", short(s), l, no, at, want)
	}
}

func expectNoTokens(t *testing.T, s string, want api.Errno, place int) {
	t.Helper()
	if l, no, at := lex.Tokens(s); len(l) != 0 || no != want || at != place {
		t.Errorf("Tokens(%q) is %+v, %d, %d; want none, %d, %d", short(s), l, no, at, want, place)
	}
}

func expectNext(t *testing.T, s string, at int, want api.Token, behind int) {
	t.Helper()
	if x, to, no := lex.Next(s, at); x != want || to != behind || no != api.OK {
		t.Errorf("Next(%q, %d) is %+v, %d, %d; want %+v, %d", short(s), at, x, to, no, want, behind)
	}
}

func expectNoNext(t *testing.T, s string, at int, want api.Errno) {
	t.Helper()
	if x, to, no := lex.Next(s, at); x != (api.Token{}) || to != 0 || no != want {
		t.Errorf("Next(%q, %d) is %+v, %d, %d; want noughts and %d", short(s), at, x, to, no, want)
	}
}

func expectAll(t *testing.T, s string, want ...api.Token) {
	t.Helper()
	if l := slices.Collect(lex.All(s)); !slices.Equal(l, want) {
		t.Errorf("All(%q) goes through %+v; want %+v", short(s), l, want)
	}
}

func expectWord(t *testing.T, s string, want bool) {
	t.Helper()
	if is := lex.Word(s); is != want {
		t.Errorf("Word(%q) is %t", short(s), is)
	}
}

func expectName(t *testing.T, s string, want bool) {
	t.Helper()
	if is := lex.Name(s); is != want {
		t.Errorf("Name(%q) is %t", short(s), is)
	}
}

// TestExamples has the chapter's examples, row by row.
func TestExamples(t *testing.T) {
	expectTokens(t, "bid+2p >= lim # so",
		word("bid", 0), mark("+", 3), number("2p", api.TypePrice, 2, 4), mark(">=", 7), name("lim", 10), end(18))
	expectTokens(t, "", end(0))
	for _, s := range []string{"007", "1x", "2qq", "9223372036854775808"} {
		expectNoTokens(t, s, wrongNumber, 0)
	}
	expectNoTokens(t, "a &b", wrongByte, 2)
	expectNoTokens(t, "A", wrongByte, 0)
	expectNoTokens(t, "\xc8", wrongByte, 0)
	expectTokens(t, "x2_y==!z", name("x2_y", 0), mark("==", 4), mark("!", 6), name("z", 7), end(8))
	expectNoTokens(t, "abcdefghijklmnopq", wrongName, 0)
	expectTokens(t, "0", number("0", api.TypeInt, 0, 0), end(1))
	expectTokens(t, "0q", number("0q", api.TypeQty, 0, 0), end(2))
	expectTokens(t, "5 p", number("5", api.TypeInt, 5, 0), name("p", 2), end(3))

	expectNext(t, "ab cd", 1, name("b", 1), 2)
	expectNext(t, "ab cd", 2, name("cd", 3), 5)
	expectNext(t, "ab cd", 5, end(5), 5)
	expectNoNext(t, "ab cd", 6, wrongArg)
	expectWord(t, "bid", true)
	expectWord(t, "bids", false)
	expectName(t, "bids", true)
	expectName(t, "bid", false)
	expectName(t, "a b", false)
	expectName(t, "", false)
}

// TestDocumentsExamples has the texts of DOC.md that show the language.
func TestDocumentsExamples(t *testing.T) {
	for s, want := range map[string]string{
		"strategy s { reg n int = 0; slot o; state a { when has ask && n < 1 do submit buy of 2q at ask limit as o, set n = n + 1; } }": "strategy s { reg n int = 0 ; slot o ; state a { when has ask && n < 1 do submit buy of 2q at ask limit as o , set n = n + 1 ; } }",
		"when bid > 3p do halt":                       "when bid > 3p do halt",
		"when has bid && bid > 3p":                    "when has bid && bid > 3p",
		"has bid || 10 / n > 3":                       "has bid || 10 / n > 3",
		"when has ask do submit buy of 1q at ask ioc": "when has ask do submit buy of 1q at ask ioc",
		"cancel o":                "cancel o",
		"when 10/n>3||has bid do": "when 10 / n > 3 || has bid do",
		"strategy s{reg n int=-5t;}#strategy\n#\nhalt\t": "strategy s { reg n int = - 5t ; } halt",
	} {
		var texts []string
		for x := range lex.All(s) {
			texts = append(texts, x.Text)
		}
		if got := strings.Join(texts, " "); got != want {
			t.Errorf("All(%q) goes through %q", s, got)
		}
	}
}
