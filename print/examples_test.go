package print_test

import (
	"testing"

	"tripwire/parse"
)

// expectRead tells whether what a text reads as is written so.
func expectRead(t *testing.T, s, want string) {
	t.Helper()
	n, err := parse.Expr(s)
	if err != nil {
		t.Fatal(s, err)
	}
	expectExpr(t, n, want)
}

// TestExamplesOfExpr has the rows of the chapter's table.
func TestExamplesOfExpr(t *testing.T) {
	expectRead(t, "1-(2-3)", "1 - (2 - 3)")
	expectRead(t, "(1-2)-3", "1 - 2 - 3")
	expectRead(t, "((1))", "1")
	expectRead(t, "-(-x)", "--x")
	expectRead(t, "-(a+b)", "-(a + b)")
	expectRead(t, "!(a&&b)", "!(a && b)")
	expectRead(t, "(a?b:c)?1q:(d?2q:3q)", "(a ? b : c) ? 1q : d ? 2q : 3q")
	expectRead(t, "(a<b)==c", "(a < b) == c")
}

func TestExampleOfTidy(t *testing.T) {
	expectTidy(t, "strategy s{slot o;state a{when has bid do submit buy of 1q at bid limit as o,halt;}}", `strategy s {
  slot o;
  state a {
    when has bid do submit buy of 1q at bid limit as o, halt;
  }
}
`)
}

// The expressions of the chapters 12 and 13, and of DOC.md.
func TestExamplesOfOtherChapters(t *testing.T) {
	for _, s := range []string{
		"bid", "-1", "1 + 2 + 3", "1 + (2 + 3)", "(1 + 2) * 3", "a < b && !c", "min(a, -b)", "a ? b : c ? 1 : 2", "(a ? b : c) ? 1 : 2", "!(a && b)",
		"has bid && bid > lim + n * lim", "1 - 2 - 3", "a ? 1 : b ? 2 : 3", "10 / n > 3 || has bid", "has bid || 10 / n > 3", "has ask && n < 1", "bid > 3p",
	} {
		expectRead(t, s, s)
	}
	expectRead(t, "!has bid || bid<=lim", "!has bid || bid <= lim")
	expectRead(t, "x2_y==!z", "x2_y == !z")
	expectRead(t, repeat("(", 24)+"1"+repeat(")", 24), "1")
	expectTidy(t, "strategy s{state a{}}", "strategy s {\n  state a {\n  }\n}\n")
	expectTidy(t, "strategy s { reg n qty = -3q; slot o; state a { when n < 0q do submit buy of -n market as o, goto a; } }", `strategy s {
  reg n qty = -3q;
  slot o;
  state a {
    when n < 0q do submit buy of -n market as o, goto a;
  }
}
`)
	expectTidy(t, "strategy s { reg n int = 0; slot o; state a { when has ask && n < 1 do submit buy of 2q at ask limit as o, set n = n + 1; } }", `strategy s {
  reg n int = 0;
  slot o;
  state a {
    when has ask && n < 1 do submit buy of 2q at ask limit as o, set n = n + 1;
  }
}
`)
}
