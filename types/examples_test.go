package types_test

import (
	"testing"

	"tripwire/api"
)

const exampleRegs = "strategy s { reg n int = 1; reg lim price = 1p; reg done bool = true; reg way side = buy; state a {} }"

func TestExamplesOfTypes(t *testing.T) {
	s := strategy(t, exampleRegs)
	for text, want := range map[string]api.Type{
		"bid * volume": api.TypeInt, "bid / ask": api.TypeInt, "bid / n": api.TypePrice, "n * lim": api.TypePrice,
		"now - 5t": api.TypeTime, "has bid && bid > lim": api.TypeBool, "done ? way : buy": api.TypeSide,
		"price(n) + 1p": api.TypePrice, "qty(now)": api.TypeQty,
	} {
		expectType(t, s, expr(t, text), want)
	}
	for text, want := range map[string]struct {
		no    api.Errno
		place int
	}{
		"bid + 1": {fit, 4}, "n < lim": {fit, 2}, "1q * 2q": {fit, 3},
		"zz + bid": {none, 0}, "way < way": {fit, 4}, "-done": {fit, 0},
		"done ? 1 : 1q": {fit, 5}, "int(done)": {fit, 0},
	} {
		expectNoType(t, s, expr(t, text), want.no, want.place)
	}
}

func TestExamplesOfStrategies(t *testing.T) {
	expectWrong(t, strategy(t, "strategy s { reg n int = 1; reg n qty = 1q; state a {} }"), twice, 28)
	expectWrong(t, strategy(t, "strategy s { reg n int = 1q; state a {} }"), fit, 13)
	expectWrong(t, strategy(t, "strategy s { state a { when true do goto b; } }"), none, 36)
	expectWrong(t, strategy(t, "strategy s { state a { when true do halt, halt; } }"), last, 42)
	expectWrong(t, strategy(t, "strategy s { state a { when bid do halt; } }"), fit, 28)
}

// Those of DOC.md, and strategies as one would write them.
func TestStrategiesThatFit(t *testing.T) {
	expectFine(t, strategy(t, exampleRegs))
	for _, text := range []string{
		"strategy s { state a {} }",
		"strategy s { reg n int = 0; slot o; state a { when has ask && n < 1 do submit buy of 2q at ask limit as o, set n = n + 1; } }",
		"strategy s { state a { when bid > 3p do halt; } }",
		"strategy s { reg n int = 0; state a { when 10 / n > 3 || has bid do halt; when has bid || 10 / n > 3 do halt; } }",
		"strategy s { state a { when has ask do submit buy of 1q at ask ioc; } }",
		"strategy s { slot o; state a { when true do cancel o; } }",
		"strategy s { reg a int = 1; slot a; state a { when a > 0 do submit buy of 1q market as a, amend a to 1q at 2p, cancel a, set a = a * 2, goto a; } }",
		"strategy x { reg way side = sell; reg since time = 0t; slot o; state wait { when now - since >= 10t && has last do set since = now, set way = way == buy ? sell : buy, goto go2; } state go2 { when true do submit way of max(1q, open / 2) at way == buy ? last : last + 1p fok as o, goto wait; } }",
		"strategy x { reg most price = -5p; state a { when abs(bid - ask) < most && !has last do halt; } }",
	} {
		expectFine(t, strategy(t, text))
	}
}
