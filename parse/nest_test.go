package parse_test

import (
	"strconv"
	"strings"
	"testing"

	"tripwire/api"
	"tripwire/parse"
	"tripwire/tree"
)

// deeper is something that goes one nest down: what stands ahead of what is within it and behind that, where the token that begins it stands, and whether it is no node of its own.
type deeper struct {
	ahead, behind string
	begins        int
	plain         bool
}

var deepers = []deeper{
	{"(", ")", 0, true}, {"-", "", 0, false}, {"!", "", 0, false}, {"abs(", ")", 0, false},
	{"min(", ",1)", 0, false}, {"min(1,", ")", 0, false}, {"max(", ",1)", 0, false}, {"max(1,", ")", 0, false},
	{"int(", ")", 0, false}, {"qty(", ")", 0, false}, {"price(", ")", 0, false}, {"time(", ")", 0, false},
	{"a?", ":1", 1, false}, {"a?1:", "", 1, false},
	{"1+2*(", ")", 4, true},
}

// nested is that many of it within one another, around what stands within.
func (d deeper) nested(n int, within string) string {
	return strings.Repeat(d.ahead, n) + within + strings.Repeat(d.behind, n)
}

func TestNests(t *testing.T) {
	for _, d := range deepers {
		for _, n := range []int{0, 1, 23, 24} {
			x, err := parse.Expr(d.nested(n, "x"))
			if err != nil {
				t.Errorf("%d of %q: %v", n, d.ahead, err)
			}
			if depth := tree.Depth(x); !d.plain && depth != n {
				t.Errorf("%d of %q: the depth %d", n, d.ahead, depth)
			}
		}
		for _, n := range []int{25, 26, 100, 300} {
			expectNoExpr(t, d.nested(n, "x"), tooDeep, 24*len(d.ahead)+d.begins)
			// What stands behind the token that is too deep does not count.
			cut := strings.Repeat(d.ahead, 24) + d.ahead[:d.begins]
			for _, word := range []string{"(", "-", "!", "abs", "min", "max", "int", "qty", "price", "time"} {
				if d.begins == 0 {
					expectNoExpr(t, cut+word, tooDeep, len(cut))
					expectNoExpr(t, cut+word+" &", tooDeep, len(cut))
					expectNoExpr(t, cut+word+" )", tooDeep, len(cut))
				}
			}
		}
	}
}

// Each thing that goes down, at the bottom of 23, 24 and 25 of each other.
func TestNestsMixed(t *testing.T) {
	for _, out := range deepers {
		for _, in := range deepers {
			// Right behind a sign there is a single part, and what is asked or added stands outside of it.
			if (out.ahead == "-" || out.ahead == "!") && in.begins > 0 {
				continue
			}
			bottom := in.nested(1, "x")
			if _, err := parse.Expr(out.nested(23, bottom)); err != nil {
				t.Errorf("Expr(%q) fails: %v", out.nested(23, bottom), err)
			}
			expectNoExpr(t, out.nested(24, bottom), tooDeep, 24*len(out.ahead)+in.begins)
			expectNoExpr(t, out.nested(25, bottom), tooDeep, 24*len(out.ahead)+out.begins)
		}
	}
}

// A nest ends with what it is of: what stands side by side is no deeper for it.
func TestNestsSideBySide(t *testing.T) {
	deep := strings.Repeat("(", 24) + "1" + strings.Repeat(")", 24)
	signs := strings.Repeat("-", 24) + "1"
	for _, s := range []string{
		deep + "+" + deep, deep + "*" + signs + "-" + deep, signs + "<" + signs, deep + "||" + signs + "&&" + deep,
		signs + "?" + "1" + ":" + "2",
		"min(" + deep[1:48] + "," + deep[1:48] + ")", "abs(" + deep[1:48] + ")+" + deep, "max(" + signs[1:] + "," + signs[1:] + ")",
		"a?" + deep[1:48] + ":" + deep[1:48], deep + "?" + signs[1:] + ":" + signs[1:],
	} {
		if _, err := parse.Expr(s); err != nil {
			t.Errorf("Expr(%q) fails: %v", s, err)
		}
	}
	for _, c := range []struct {
		s  string
		at int
	}{
		{deep + "+(" + deep + ")", 50 + 24}, {"min(" + deep[1:48] + "," + deep + ")", 4 + 47 + 1 + 23}, {"min(" + deep + ",1)", 4 + 23},
		{"a?" + deep + ":1", 2 + 23}, {"a?1:" + deep, 4 + 23}, {"a?" + deep[1:48] + ":" + signs, 2 + 47 + 1 + 23}, {deep + "?(" + deep, 51 + 22},
		{"-" + deep, 24}, {"-" + signs, 24}, {"(a?" + deep[1:48] + ":b)", 3 + 22}, {deep[:24] + "a?b:c", 25}, {"a?" + strings.Repeat("(", 23) + "b?c:d", 26}, {deep + "*-" + signs, 50 + 24},
	} {
		expectNoExpr(t, c.s, tooDeep, c.at)
	}
}

// Brackets that are not needed count, though they make no node.
func TestNestsOfBracketsThatAreNotNeeded(t *testing.T) {
	expectExpr(t, strings.Repeat("(", 24)+"a+b"+strings.Repeat(")", 24), "(+@25 $a@24 $b@26)")
	expectNoExpr(t, strings.Repeat("(", 24)+"a+(b)"+strings.Repeat(")", 24), tooDeep, 26)
	expectNoExpr(t, strings.Repeat("(", 23)+"abs((1))", tooDeep, 27)
	expectNoExpr(t, strings.Repeat("(", 24)+"abs(1)", tooDeep, 24)
	expectNoExpr(t, strings.Repeat("(", 24)+"-1", tooDeep, 24)
	expectExpr(t, strings.Repeat("(", 24)+"1-1"+strings.Repeat(")", 24), "(-@25 1@24 1@26)")
}

// The bracket of abs and its like is none of its own: the word is too deep, and not the bracket.
func TestNestsOfWords(t *testing.T) {
	for _, w := range []string{"abs", "min", "max", "int", "qty", "price", "time"} {
		ahead := strings.Repeat("-", 23)
		expectNoExpr(t, ahead+w+" -1", wrongToken, 23+len(w)+1)
		expectNoExpr(t, ahead+w+"(-1", tooDeep, 23+len(w)+1)
		expectNoExpr(t, ahead+"-"+w, tooDeep, 24)
		expectNoExpr(t, ahead+"-"+w+"(1)", tooDeep, 24)
	}
}

// Each expression of a strategy begins anew; a register's minus is none of it.
func TestNestsInStrategies(t *testing.T) {
	deep := strings.Repeat("(", 24) + "1" + strings.Repeat(")", 24)
	for _, s := range []string{
		"when " + deep + " do submit " + deep + " of " + deep + " at " + deep + " limit, amend o to " + deep + " at " + deep + ", set n=" + deep + ";",
		"when " + deep + " do halt; when " + deep + " do halt;",
	} {
		whole := inState.ahead + s + inState.behind
		if _, err := parse.Strategy(whole); err != nil {
			t.Errorf("Strategy(%q) fails: %v", whole, err)
		}
		// One of them is a bracket deeper.
		for i := range strings.Count(s, deep) {
			l := strings.Split(s, deep)
			ahead := strings.Join(l[:i+1], deep)
			inState.expectNo(t, ahead+"("+deep+")"+strings.Join(l[i+1:], deep), tooDeep, len(ahead)+24)
		}
	}
	inStrategy.expect(t, "reg n int=-1;reg m int=-2;", "reg@0 n int = (-@10 1@11); reg@13 m int = (-@23 2@24);")
}

// A token that cannot stand is told ahead of one that is too deep, as it stands ahead of it, and the other way round.
func TestNestsAndOtherFaults(t *testing.T) {
	open := strings.Repeat("(", 24)
	expectNoExpr(t, open+"1 1 (", wrongToken, 26)
	expectNoExpr(t, open+"( 1 1", tooDeep, 24)
	expectNoExpr(t, open+"& (", wrongByte, 24)
	expectNoExpr(t, open+"( &", tooDeep, 24)
	expectNoExpr(t, open+"1(", wrongToken, 25)
	expectNoExpr(t, open+"1!", wrongToken, 25)
	expectNoExpr(t, open+"1 abs", wrongToken, 26)
	expectNoExpr(t, open+")", wrongToken, 24)
	expectNoExpr(t, open, wrongToken, 24)
	expectNoExpr(t, open+"a?", tooDeep, 25)
	expectNoExpr(t, open+"?", wrongToken, 24)
	expectNoExpr(t, open+"1<2<(", wrongToken, 27)
	expectNoExpr(t, strings.Repeat("(", most), tooDeep, 24)
	expectNoExpr(t, strings.Repeat("(", most+1), tooLong, 0)
	expectNoExpr(t, strings.Repeat("-", most), tooDeep, 24)
	expectNoExpr(t, strings.Repeat("!", most), tooDeep, 24)
}

// What is not deep may be long.
func TestLongRows(t *testing.T) {
	n, err := parse.Expr("1" + strings.Repeat("+1", 2047))
	if err != nil || tree.Size(n) != 4095 || tree.Depth(n) != 0 || n.At != 4093 {
		t.Errorf("a long row: %v, %d nodes, at %d", err, tree.Size(n), n.At)
	}
	for _, o := range []string{"-", "*", "/", "%", "&&", "||"} {
		count := (most - 1) / (1 + len(o))
		s := "1" + strings.Repeat(o+"1", count)
		x, err := parse.Expr(s)
		if err != nil || tree.Size(x) != 2*count+1 || x.Kids[1].At != len(s)-1 {
			t.Errorf("a long row of %s: %v", o, err)
		}
	}
	x, err := parse.Expr("a" + strings.Repeat("&&a<b", 800))
	if err != nil || tree.Size(x) != 1+800*4 {
		t.Errorf("a long row of comparisons: %v", err)
	}
}

// Where each bracket is needed, the tree is as deep as the text.
func TestDepthIsTheNest(t *testing.T) {
	for n := range 30 {
		s := strings.Repeat("a-(", n) + "b-c" + strings.Repeat(")", n)
		x, err := parse.Expr(s)
		no, at := parse.Wrong(err)
		if n <= 24 && (no != api.OK || tree.Depth(x) != n) || n > 24 && (no != tooDeep || at != 24*3+2) {
			t.Error(strconv.Itoa(n) + " brackets: " + short(told(x)))
		}
	}
}
