package print_test

import (
	"testing"

	"tripwire/api"
	"tripwire/parse"
	"tripwire/tree"
)

// sized is an expression whose text has just so many bytes (four at least): a row, and digits that fill up what is left.
func sized(bytes int) api.Node {
	parts, digits := (bytes-4)/4, int64(1000)
	for range (bytes - 4) % 4 {
		digits *= 10
	}
	n := reg("a")
	if parts == 0 {
		return num(digits)
	}
	n = row(api.OperAdd, n, reg("a"), parts-1)
	return binary(api.OperAdd, n, num(digits))
}

// sizedText is its text.
func sizedText(bytes int) string {
	return repeat("a + ", (bytes-4)/4) + "1000" + repeat("0", (bytes-4)%4)
}

// expectSized tells whether an expression is refused just where its text has more than 4096 bytes.
func expectSized(t *testing.T, n api.Node, want string) {
	t.Helper()
	if no := tree.CheckExpr(n); no != api.OK {
		t.Fatalf("%s may not be: %d", short(n), no)
	}
	if len(want) > most {
		expectNoExpr(t, n, tooLong)
		return
	}
	expectExpr(t, n, want)
}

// Expressions of 4096 bytes, of 4097, and around: whichever piece is the last one.
func TestLongExpressions(t *testing.T) {
	for bytes := most - 30; bytes <= most+10; bytes++ {
		n, s := sized(bytes), sizedText(bytes)
		if len(s) != bytes {
			t.Fatal(len(s), bytes)
		}
		expectSized(t, n, s)
		expectSized(t, unary(1, n), "-("+s+")")
		expectSized(t, call(3, n), "abs("+s+")")
		expectSized(t, call(4, n, reg("b")), "min("+s+", b)")
		expectSized(t, call(5, reg("b"), n), "max(b, "+s+")")
		expectSized(t, conv(4, n), "time("+s+")")
		expectSized(t, cond(n, reg("b"), reg("c")), s+" ? b : c")
		expectSized(t, cond(reg("b"), reg("c"), n), "b ? c : "+s)
		expectSized(t, binary(6, n, reg(longName)), s+" + "+longName)
		expectSized(t, binary(6, n, has(3)), s+" + has last")
		expectSized(t, binary(6, n, lit(4, greatest)), s+" + 9223372036854775807t")
		expectSized(t, binary(6, n, lit(5, 0)), s+" + false")
		expectSized(t, binary(7, reg("b"), n), "b - ("+s+")")
		expectSized(t, binary(17, n, lit(6, 2)), s+" && sell")
		expectSized(t, binary(8, field(4), unary(2, n)), "volume * !("+s+")")
	}
	for bytes := 4; bytes < most; bytes += 37 {
		expectSized(t, sized(bytes), sizedText(bytes))
	}
}

// Much longer ones are refused, too, however they are nested.
func TestVeryLongExpressions(t *testing.T) {
	for _, count := range []int{2000, 60000} {
		for _, o := range []api.Oper{6, 7, 8, 9, 10, 17, 18} {
			n := row(o, num(1), reg(longName), count)
			expectNoExpr(t, n, tooLong)
			expectNoExpr(t, unary(1, n), tooLong)
			expectNoExpr(t, call(4, n, n), tooLong)
			expectNoExpr(t, cond(num(1), n, n), tooLong)
			expectNoStrategy(t, ruled(n, halt()), tooLong)
			expectNoStrategy(t, ruled(has(1), set("a", n)), tooLong)
		}
	}
}

// Of a text that is too long the rest costs nothing: kids that are shared make millions of nodes out of a few.
func TestSharedKids(t *testing.T) {
	twice := func(n api.Node) api.Node { return call(4, n, n) }
	expectSized(t, grown(num(1), 9, twice), modelExpr(grown(num(1), 9, twice)))
	expectNoExpr(t, grown(num(1), 10, twice), tooLong)
	expectNoExpr(t, grown(num(1), 20, twice), tooLong)
	expectNoStrategy(t, ruled(grown(num(1), 16, twice), times(8, set("a", grown(num(1), 16, twice)))...), tooLong)
}

// A strategy whose text has just so many bytes, by each part that can be made longer.
func TestLongStrategies(t *testing.T) {
	for bytes := most - 3; bytes <= most+4; bytes++ {
		expectSizedStrategy(t, bytes, func(n api.Node) api.Strategy { return ruled(n, halt()) })
		expectSizedStrategy(t, bytes, func(n api.Node) api.Strategy { return ruled(has(1), set("a", n)) })
		expectSizedStrategy(t, bytes, func(n api.Node) api.Strategy { return ruled(has(1), set("a", n), halt(), halt()) })
		expectSizedStrategy(t, bytes, func(n api.Node) api.Strategy {
			return ruled(has(1), api.Do{Kind: api.DoSubmit, Order: 2, Side: num(1), Qty: n, Name: "o"})
		})
		expectSizedStrategy(t, bytes, func(n api.Node) api.Strategy {
			return ruled(has(1), api.Do{Kind: api.DoSubmit, Order: 3, Side: n, Qty: num(1), Price: num(2)})
		})
		expectSizedStrategy(t, bytes, func(n api.Node) api.Strategy {
			return ruled(has(1), api.Do{Kind: api.DoAmend, Name: "o", Qty: num(1), Price: n})
		})
		expectSizedStrategy(t, bytes, func(n api.Node) api.Strategy {
			s := ruled(n, halt())
			s.Regs = []api.Reg{{Name: "n", Type: 1, Init: unary(1, num(1))}}
			s.Slots = []api.Slot{{Name: longName}}
			s.States = append(s.States, api.State{Name: "b"})
			return s
		})
	}
}

// expectSizedStrategy fills a strategy up with an expression till its text has so many bytes.
func expectSizedStrategy(t *testing.T, bytes int, filled func(n api.Node) api.Strategy) {
	t.Helper()
	rest := len(modelStrategy(filled(num(1)))) - 1
	x := filled(sized(bytes - rest))
	s := modelStrategy(x)
	if len(s) != bytes {
		t.Fatal(len(s), bytes)
	}
	if bytes > most {
		expectNoStrategy(t, x, tooLong)
		return
	}
	expectStrategy(t, x, s)
}

// Strategies that have all they may, of which the names alone are too long.
func TestFullStrategies(t *testing.T) {
	s := keeping(times(12, api.Reg{Name: longName, Type: 3, Init: unary(1, lit(3, greatest))})...)
	s.Slots = times(4, api.Slot{Name: longName})
	s.States = times(12, api.State{Name: longName, Rules: times(12, api.Rule{When: reg(longName), Dos: times(8, set(longName, reg(longName)))})})
	if no := tree.Check(s); no != api.OK {
		t.Fatal(no)
	}
	expectNoStrategy(t, s, tooLong)
	for i := range s.States {
		s.States[i].Rules = nil
	}
	expectStrategy(t, s, "strategy s {\n"+repeat("  reg "+longName+" price = -9223372036854775807p;\n", 12)+repeat("  slot "+longName+";\n", 4)+repeat("  state "+longName+" {\n  }\n", 12)+"}\n")
}

// A text can be read back as long as it is not too long: at 4096 bytes it still is.
func TestTheLongestTextIsRead(t *testing.T) {
	s, no := turned(sized(most))
	if n, err := parse.Expr(s); err != nil || no != api.OK || len(s) != most || !tree.SameExpr(n, sized(most)) {
		t.Errorf("%q, %d: %v", short(s), no, err)
	}
}
