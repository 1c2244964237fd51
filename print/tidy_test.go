package print_test

import (
	"errors"
	"reflect"
	"testing"

	"tripwire/api"
	"tripwire/parse"
	"tripwire/print"
	"tripwire/tree"
)

// failure is that of parse.Strategy; of what is no token with that of the tokens within.
func failure(no api.Errno, at int) error {
	if no >= api.ErrLexLong && no <= api.ErrLexNumber {
		return &api.Failure{Call: "Strategy", At: at, Err: &api.Failure{Call: "Tokens", At: at, Err: no}}
	}
	return &api.Failure{Call: "Strategy", At: at, Err: no}
}

var tidyTooLong = &api.Failure{Call: "Tidy", At: 0, Err: api.ErrPrintLong}

// refusedTexts are refused by each error of the chapters 11 and 13.
var refusedTexts = []struct {
	s  string
	no api.Errno
	at int
}{
	{"", api.ErrParseToken, 0},
	{"strategy s{}", api.ErrParseToken, 11},
	{"strategy s{state a{when true do halt}}", api.ErrParseToken, 36},
	{"strategy s {\n  state a {\n  }\n", api.ErrParseToken, 29},
	{"1 + 2", api.ErrParseToken, 0},
	{"strategy s{" + repeat("reg n int=1;", 13) + "state a{}}", api.ErrParseMany, 155},
	{"strategy s{" + repeat("slot o;", 5) + "state a{}}", api.ErrParseMany, 39},
	{"strategy s{" + repeat("state a{}", 13) + "}", api.ErrParseMany, 119},
	{"strategy s{state a{" + repeat("when true do halt;", 13) + "}}", api.ErrParseMany, 235},
	{"strategy s{state a{when true do halt" + repeat(",halt", 8) + ";}}", api.ErrParseMany, 71},
	{"strategy s{state a{when " + repeat("(", 25) + "1" + repeat(")", 25) + " do halt;}}", api.ErrParseNest, 48},
	{repeat(" ", 4097), api.ErrLexLong, 0},
	{"strategy s{state a{}}" + repeat("#", 4076), api.ErrLexLong, 0},
	{"strategy s{state A{}}", api.ErrLexByte, 17},
	{"strategy s{state a{}}&", api.ErrLexByte, 21},
	{"strategy abcdefghijklmnopq{state a{}}", api.ErrLexName, 9},
	{"strategy s{reg n int=007;state a{}}", api.ErrLexNumber, 21},
	{"strategy s{reg n int=9223372036854775808;state a{}}", api.ErrLexNumber, 21},
	// Several wrong at once: the first one is told.
	{"strategy s{state a{when 1 + do 007 &}", api.ErrParseToken, 28},
	{"strategy s{& state a{when 1 + do", api.ErrLexByte, 11},
	{repeat("&", 4097), api.ErrLexLong, 0},
}

func TestRefusedTexts(t *testing.T) {
	for _, x := range refusedTexts {
		expectNoTidy(t, x.s, failure(x.no, x.at))
		_, err := parse.Strategy(x.s)
		expectNoTidy(t, x.s, err)
	}
}

// What errors.Is and errors.As find in Tidy's errors.
func TestWhatErrorsFind(t *testing.T) {
	numbers := []api.Errno{api.OK, api.ErrArg, api.ErrLexLong, api.ErrLexByte, api.ErrLexName, api.ErrLexNumber, wrongForm, tooMany, tooDeep, api.ErrParseToken, api.ErrParseMany, api.ErrParseNest, tooLong}
	expect := func(s, call string, want api.Errno, at int) {
		t.Helper()
		_, err := print.Tidy(s)
		for _, no := range numbers {
			if errors.Is(err, no) != (no == want) {
				t.Errorf("%q: errors.Is of %v and %d is not right", short(s), err, no)
			}
		}
		var no api.Errno
		if !errors.As(err, &no) || no != want {
			t.Errorf("%q: errors.As finds %d; want %d", short(s), no, want)
		}
		var f *api.Failure
		if !errors.As(err, &f) || error(f) != err || f.Call != call || f.At != at {
			t.Errorf("%q: errors.As finds %v in %v", short(s), f, err)
		}
		if no, place := parse.Wrong(err); no != want || place != at {
			t.Errorf("%q: Wrong finds %d, %d; want %d, %d", short(s), no, place, want, at)
		}
	}
	for _, x := range refusedTexts {
		expect(x.s, "Strategy", x.no, x.at)
	}
	expect(wide(most+1), "Tidy", tooLong, 0)
	_, err := print.Tidy(wide(most + 1))
	if s := err.Error(); s != "Tidy: error 140" {
		t.Error(s)
	}
	if e := err.(*api.Failure).Err; e != error(tooLong) {
		t.Errorf("within it is %#v", e)
	}
}

// wide is a text, of fewer bytes than its tidy text, which has just so many.
func wide(bytes int) string {
	const ahead, behind = "strategy s{state a{when ", " do halt;}}"
	rest := len(ruleText("", "halt"))
	return ahead + compact(sizedText(bytes-rest)) + behind
}

// compact is a text without blanks.
func compact(s string) string {
	var b []byte
	for i := range len(s) {
		if s[i] != ' ' {
			b = append(b, s[i])
		}
	}
	return string(b)
}

// A text that can be read, whose tidy text has 4096 bytes, 4097, and around.
func TestTidyTextsThatAreTooLong(t *testing.T) {
	for bytes := most - 9; bytes <= most+9; bytes++ {
		s := wide(bytes)
		if _, err := parse.Strategy(s); err != nil || len(s) > most {
			t.Fatal(err, len(s))
		}
		if bytes > most {
			expectNoTidy(t, s, tidyTooLong)
			continue
		}
		rest := len(ruleText("", "halt"))
		want := ruleText(sizedText(bytes-rest), "halt")
		if len(want) != bytes {
			t.Fatal(len(want), bytes)
		}
		expectTidy(t, s, want)
	}
	// As long as a text may be, and much longer when tidy.
	body := "strategy s{state a{when a" + repeat("+a", 2029) + " do halt;}}"
	if len(body) > most || len(body) < most-10 {
		t.Fatal(len(body))
	}
	expectNoTidy(t, body, tidyTooLong)
	expectNoTidy(t, body+repeat(" ", most-len(body)), tidyTooLong)
	expectNoTidy(t, body+repeat(" ", most+1-len(body)), failure(api.ErrLexLong, 0))
	// As long as may be by remarks and blanks, and short when tidy.
	expectTidy(t, "strategy s{state a{}}"+repeat("#", most-21), "strategy s {\n  state a {\n  }\n}\n")
	expectTidy(t, repeat("\n", most-21)+"strategy s{state a{}}", "strategy s {\n  state a {\n  }\n}\n")
}

func TestTidy(t *testing.T) {
	const want = `strategy s {
  reg n int = -3;
  reg w side = sell;
  slot o;
  state a {
    when has bid do submit buy of 1q at bid limit as o, halt;
    when (a ? b : c) == 1 do amend o to 2q at 3p, cancel o, set n = n + 1, goto b;
  }
  state b {
  }
}
`
	for _, s := range []string{
		want,
		"strategy s{reg n int=-3;reg w side=sell;slot o;state a{when has bid do submit buy of 1q at bid limit as o,halt;when(a?b:c)==1 do amend o to 2q at 3p,cancel o,set n=n+1,goto b;}state b{}}",
		"strategy s{reg n int=- 3;reg w side=sell;slot o;state a{when(has bid)do submit(buy)of(1q)at(bid)limit as o,halt;when((a)?(b):(c))==(1)do amend o to((2q))at 3p,cancel o,set n=((n)+(1)),goto b;}state b{}}",
		"# first\nstrategy\ts # name\r\n{ reg n int = - # minus\n 3 ; reg w side = sell ; slot o ; state a { when has # field\n bid do submit buy of 1q at bid limit as o , halt ; when ( a ? b : c ) == 1 do amend o to 2q at 3p , cancel o , set n = n + 1 , goto b ; } state b { } } # last",
	} {
		expectTidy(t, s, want)
	}
	x, err := parse.Strategy(want)
	if err != nil {
		t.Fatal(err)
	}
	expectStrategy(t, x, want)
}

// Tidy of what Tidy answers is that text; whatever it answers is the text of the tree that is read.
func TestTidyOfTidy(t *testing.T) {
	d := drawer{draw(30)}
	count := 0
	for range 600 {
		s := strewn(strategyTokens(d.strategy(), never), d.below)
		x, wrong := parse.Strategy(s)
		got, err := print.Tidy(s)
		if wrong != nil {
			expectNoTidy(t, s, wrong)
			continue
		}
		if text, no := print.Strategy(x); text != got || (no == api.OK) != (err == nil) {
			t.Errorf("Tidy(%q) is %q, %v; Strategy is %q, %d", short(s), short(got), err, short(text), no)
		}
		if err != nil {
			expectNoTidy(t, s, tidyTooLong)
			continue
		}
		count++
		expectTidy(t, got, got)
		if back, err := parse.Strategy(got); err != nil || !tree.Same(back, x) {
			t.Errorf("%q does not come back: %v", got, err)
		}
	}
	if count < 200 {
		t.Errorf("only %d", count)
	}
}

// Texts of any bytes, and spoilt ones: Tidy says what parse.Strategy says.
func TestTidyOfAnyTexts(t *testing.T) {
	below := draw(31)
	seeds := []string{"strategy s{reg n qty=-1q;slot o;state a{when has bid&&n<2q do submit buy of n at bid limit as o,goto a;}}", "strategy s{state a{}}"}
	bytes := "abidhs 0179qp{}(),;?:=!<>+-*/%&|#\n\x00\xffA_"
	good := 0
	for i := range 20000 {
		b := []byte(seeds[i%2])
		for range below(3) {
			b[below(len(b))] = bytes[below(len(bytes))]
		}
		s := string(b[below(2)*below(len(b)):])
		x, wrong := parse.Strategy(s)
		got, err := print.Tidy(s)
		want := ""
		if wrong == nil {
			good++
			want = modelStrategy(x)
		}
		if got != want || !reflect.DeepEqual(err, wrong) {
			t.Errorf("Tidy(%q) is %q, %v; want %q, %v", s, got, err, want, wrong)
		}
	}
	if good < 3000 {
		t.Errorf("only %d", good)
	}
}
