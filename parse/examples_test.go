package parse_test

import (
	"errors"
	"strings"
	"testing"

	"tripwire/api"
	"tripwire/parse"
)

// TestExamplesOfExpr has the rows of the chapter's first table.
func TestExamplesOfExpr(t *testing.T) {
	expectExpr(t, "1 - 2 - 3", "(-@6 (-@2 1@0 2@4) 3@8)")
	expectExpr(t, "!has bid || bid<=lim", "(||@9 (!@0 has bid@1) (<=@15 bid@12 $lim@17))")
	expectExpr(t, "a ? 1 : b ? 2 : 3", "(?@2 $a@0 1@4 (?@10 $b@8 2@12 3@16))")
	expectNoExpr(t, "1 < 2 < 3", wrongToken, 6)
	expectNoExpr(t, "1 +", wrongToken, 3)
	expectNoExpr(t, "", wrongToken, 0)
	expectNoExpr(t, "bid ask", wrongToken, 4)
	expectNoExpr(t, "007 +", wrongNumber, 0)
	expectNoExpr(t, "(1 + &", wrongByte, 5)
	expectNoExpr(t, "min(1)", wrongToken, 5)
	expectNoExpr(t, "has now", wrongToken, 4)
	expectNoExpr(t, "reg", wrongToken, 0)
	expectExpr(t, strings.Repeat("(", 24)+"1"+strings.Repeat(")", 24), "1@24")
	expectNoExpr(t, strings.Repeat("(", 25)+"1"+strings.Repeat(")", 25), tooDeep, 24)
}

// TestExamplesOfStrategy has those of the second one.
func TestExamplesOfStrategy(t *testing.T) {
	expectStrategy(t, "strategy s{state a{}}", "s state@11 a")
	expectNoStrategy(t, "strategy s{}", wrongToken, 11)
	expectNoStrategy(t, "strategy s{state a{when true do halt}}", wrongToken, 36)
	expectStrategy(t, "strategy s { reg n qty = -3q; slot o; state a { when n < 0q do submit buy of -n market as o, goto a; } }",
		"s reg@13 n qty = (-@25 3q@26); slot@30 o; state@38 a when@48 (<@55 $n@53 0q@57) do submit@63 market buy@70 (-@77 $n@78) o, goto@93 a;")
}

// TestExamplesOfTheDocument has the strategies and guards of DOC.md.
func TestExamplesOfTheDocument(t *testing.T) {
	expectStrategy(t, "strategy s { reg n int = 0; slot o; state a { when has ask && n < 1 do submit buy of 2q at ask limit as o, set n = n + 1; } }",
		"s reg@13 n int = 0@25; slot@28 o; state@36 a when@46 (&&@59 has ask@51 (<@64 $n@62 1@66)) do submit@71 limit buy@78 2q@85 ask@91 o, set@107 (+@117 $n@115 1@119) n;")
	inState.expect(t, "when bid > 3p do halt;", "when@0 (>@9 bid@5 3p@11) do halt@17;")
	inState.expect(t, "when has bid && bid > 3p do halt;", "when@0 (&&@13 has bid@5 (>@20 bid@16 3p@22)) do halt@28;")
	expectExpr(t, "10 / n > 3 || has bid", "(||@11 (>@7 (/@3 10@0 $n@5) 3@9) has bid@14)")
	expectExpr(t, "has bid || 10 / n > 3", "(||@8 has bid@0 (>@18 (/@14 10@11 $n@16) 3@20))")
	inState.expect(t, "when has ask do submit buy of 1q at ask ioc;", "when@0 has ask@5 do submit@16 ioc buy@23 1q@30 ask@36;")
	inDo.expect(t, "cancel o", "cancel@0 o;")
}

// An error's Errno is found by errors.Is, and by errors.As the first Failure, and of what is no token the one within it.
func TestWhatErrorsFind(t *testing.T) {
	numbers := []api.Errno{wrongToken, tooMany, tooDeep, tooLong, wrongByte, wrongName, wrongNumber, api.ErrTreeForm, api.ErrArg, api.OK}
	for s, want := range map[string]api.Errno{
		"strategy s { state":                                 wrongToken,
		"strategy s{" + strings.Repeat("slot o;", 5):         tooMany,
		"strategy s{state a{when " + strings.Repeat("!", 25): tooDeep,
		strings.Repeat(" ", 4097):                            tooLong,
		"strategy &":                                         wrongByte,
		"strategy abcdefghijklmnopq":                         wrongName,
		"strategy s { reg n int = 1x":                        wrongNumber,
	} {
		_, err := parse.Strategy(s)
		for _, no := range numbers {
			if errors.Is(err, no) != (no == want) {
				t.Errorf("%q: errors.Is of %v and %d is not right", short(s), err, no)
			}
		}
		var no api.Errno
		if !errors.As(err, &no) || no != want {
			t.Errorf("%q: errors.As finds %d; want %d", short(s), no, want)
		}
		var f, within *api.Failure
		if !errors.As(err, &f) || error(f) != err || f.Call != "Strategy" {
			t.Errorf("%q: errors.As finds %v in %v", short(s), f, err)
		}
		if errors.As(f.Err, &within) != (want < 120) {
			t.Errorf("%q: errors.As finds %v in %v", short(s), within, f.Err)
		}
	}
	_, err := parse.Expr("1 2")
	if text := err.Error(); text != "Expr: error 130" {
		t.Error(text)
	}
	_, err = parse.Strategy("strategy A")
	if text := err.Error(); text != "Strategy: Tokens: error 111" {
		t.Error(text)
	}
}
