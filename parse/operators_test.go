package parse_test

import (
	"fmt"
	"testing"
)

// levels are the operators between two parts, the loosest first.
var levels = [][]string{{"||"}, {"&&"}, {"==", "!=", "<", "<=", ">", ">="}, {"+", "-"}, {"*", "/", "%"}}

// comparing is the one level whose operators don't stand in a row.
const comparing = 2

func eachPair(see func(one, two string, level, level2 int)) {
	for i, l := range levels {
		for j, m := range levels {
			for _, one := range l {
				for _, two := range m {
					see(one, two, i, j)
				}
			}
		}
	}
}

// Of two operators the one that binds more tightly comes first, of one level the one ahead; brackets turn that round.
func TestPairsOfOperators(t *testing.T) {
	pairs := 0
	eachPair(func(one, two string, level, level2 int) {
		pairs++
		s := fmt.Sprintf("a %s b %s c", one, two)
		first, second := 2, 5+len(one)
		ahead := fmt.Sprintf("(%s@%d (%s@%d $a@0 $b@%d) $c@%d)", two, second, one, first, first+len(one)+1, second+len(two)+1)
		behind := fmt.Sprintf("(%s@%d $a@0 (%s@%d $b@%d $c@%d))", one, first, two, second, first+len(one)+1, second+len(two)+1)
		switch {
		case level == comparing && level2 == comparing:
			expectNoExpr(t, s, wrongToken, second)
		case level < level2:
			expectExpr(t, s, behind)
		default:
			expectExpr(t, s, ahead)
		}
		expectExpr(t, fmt.Sprintf("(a%sb)%sc", one, two),
			fmt.Sprintf("(%s@%d (%s@2 $a@1 $b@%d) $c@%d)", two, 4+len(one), one, 2+len(one), 4+len(one)+len(two)))
		expectExpr(t, fmt.Sprintf("a%s(b%sc)", one, two),
			fmt.Sprintf("(%s@1 $a@0 (%s@%d $b@%d $c@%d))", one, two, 3+len(one), 2+len(one), 3+len(one)+len(two)))
	})
	if pairs != 13*13 {
		t.Errorf("%d pairs", pairs)
	}
}

// Of three comparisons the third may stand, where something looser stands between.
func TestComparisonsInARow(t *testing.T) {
	for _, one := range levels[comparing] {
		for _, two := range levels[comparing] {
			expectNoExpr(t, fmt.Sprintf("1+2%s3*4%s5", one, two), wrongToken, 6+len(one))
			expectNoExpr(t, fmt.Sprintf("a&&1%s2%s3", one, two), wrongToken, 5+len(one))
			expectNoExpr(t, fmt.Sprintf("(a%sb%sc)", one, two), wrongToken, 3+len(one))
			for _, between := range []string{"&&", "||", "?"} {
				s := fmt.Sprintf("a%sb%sc%sd", one, between, two)
				from := 2 + len(one) + len(between)
				want := fmt.Sprintf("(%s@%d (%s@1 $a@0 $b@%d) (%s@%d $c@%d $d@%d))", between, 2+len(one), one, 1+len(one), two, from+1, from, from+1+len(two))
				if between == "?" {
					s += ":e"
					want = want[:len(want)-1] + fmt.Sprintf(" $e@%d)", len(s)-1)
				}
				expectExpr(t, s, want)
			}
		}
	}
	expectNoExpr(t, "a = b", wrongToken, 2)
	expectNoExpr(t, "a < = b", wrongToken, 4)
	expectNoExpr(t, "a === b", wrongToken, 4)
	expectNoExpr(t, "a <> b", wrongToken, 3)
}

func TestRowsOfOneLevel(t *testing.T) {
	expectExpr(t, "a+b-c+d", "(+@5 (-@3 (+@1 $a@0 $b@2) $c@4) $d@6)")
	expectExpr(t, "a/b*c%d", "(%@5 (*@3 (/@1 $a@0 $b@2) $c@4) $d@6)")
	expectExpr(t, "a||b||c||d", "(||@7 (||@4 (||@1 $a@0 $b@3) $c@6) $d@9)")
	expectExpr(t, "a&&b&&c&&d", "(&&@7 (&&@4 (&&@1 $a@0 $b@3) $c@6) $d@9)")
	expectExpr(t, "a*b+c*d-e/f", "(-@7 (+@3 (*@1 $a@0 $b@2) (*@5 $c@4 $d@6)) (/@9 $e@8 $f@10))")
	expectExpr(t, "a||b&&c<d+e*-f", "(||@1 $a@0 (&&@4 $b@3 (<@7 $c@6 (+@9 $d@8 (*@11 $e@10 (-@12 $f@13))))))")
	expectExpr(t, "-f*e+d<c&&b||a", "(||@11 (&&@8 (<@6 (+@4 (*@2 (-@0 $f@1) $e@3) $d@5) $c@7) $b@10) $a@13)")
	expectExpr(t, "a-(b-(c-d))", "(-@1 $a@0 (-@4 $b@3 (-@7 $c@6 $d@8)))")
	expectExpr(t, "((a))-((b-c))", "(-@5 $a@2 (-@9 $b@8 $c@10))")
}

// A sign binds more tightly than what stands between two; it may stand behind any operator, and behind itself.
func TestSigns(t *testing.T) {
	expectExpr(t, "-1", "(-@0 1@1)")
	expectExpr(t, "!a", "(!@0 $a@1)")
	expectExpr(t, "--1", "(-@0 (-@1 1@2))")
	expectExpr(t, "!!a", "(!@0 (!@1 $a@2))")
	expectExpr(t, "-!a", "(-@0 (!@1 $a@2))")
	expectExpr(t, "!-a", "(!@0 (-@1 $a@2))")
	expectExpr(t, "- ! - ! a", "(-@0 (!@2 (-@4 (!@6 $a@8))))")
	expectExpr(t, "a--b", "(-@1 $a@0 (-@2 $b@3))")
	expectExpr(t, "a-!b", "(-@1 $a@0 (!@2 $b@3))")
	expectExpr(t, "-a-b", "(-@2 (-@0 $a@1) $b@3)")
	expectExpr(t, "-(a-b)", "(-@0 (-@3 $a@2 $b@4))")
	expectExpr(t, "-9223372036854775807t", "(-@0 9223372036854775807t@1)")
	for _, l := range levels {
		for _, one := range l {
			for _, sign := range []string{"-", "!"} {
				from := 2 + len(one)
				expectExpr(t, sign+"a"+one+"b", fmt.Sprintf("(%s@2 (%s@0 $a@1) $b@%d)", one, sign, from))
				expectExpr(t, "a"+one+" "+sign+"b", fmt.Sprintf("(%s@1 $a@0 (%s@%d $b@%d))", one, sign, from, from+1))
				expectExpr(t, sign+"(a"+one+"b)", fmt.Sprintf("(%s@0 (%s@3 $a@2 $b@%d))", sign, one, 3+len(one)))
			}
		}
	}
	expectNoExpr(t, "-", wrongToken, 1)
	expectNoExpr(t, "!", wrongToken, 1)
	expectNoExpr(t, "!=a", wrongToken, 0)
	expectNoExpr(t, "+1", wrongToken, 0)
	expectNoExpr(t, "a!", wrongToken, 1)
	expectNoExpr(t, "a ! b", wrongToken, 2)
	expectNoExpr(t, "-*a", wrongToken, 1)
	expectNoExpr(t, "a*/b", wrongToken, 2)
	expectNoExpr(t, "a&&||b", wrongToken, 3)
}

// A sign goes with the part alone that stands behind it, not with what is asked of it.
func TestSignsAheadOfQuestions(t *testing.T) {
	expectExpr(t, "!a?b:c", "(?@2 (!@0 $a@1) $b@3 $c@5)")
	expectExpr(t, "a?-b:!c", "(?@1 $a@0 (-@2 $b@3) (!@5 $c@6))")
	expectExpr(t, "-(a?b:c)", "(-@0 (?@3 $a@2 $b@4 $c@6))")
	expectExpr(t, "-abs(a)", "(-@0 (abs@1 $a@5))")
	expectExpr(t, "!has last", "(!@0 has last@1)")
}

func TestQuestions(t *testing.T) {
	expectExpr(t, "a?b:c", "(?@1 $a@0 $b@2 $c@4)")
	// Within the first kid in brackets alone; within the second and the third with and without.
	expectExpr(t, "(a?b:c)?d:e", "(?@7 (?@2 $a@1 $b@3 $c@5) $d@8 $e@10)")
	expectExpr(t, "a?b?c:d:e", "(?@1 $a@0 (?@3 $b@2 $c@4 $d@6) $e@8)")
	expectExpr(t, "a?(b?c:d):e", "(?@1 $a@0 (?@4 $b@3 $c@5 $d@7) $e@10)")
	expectExpr(t, "a?b:c?d:e", "(?@1 $a@0 $b@2 (?@5 $c@4 $d@6 $e@8))")
	expectExpr(t, "a?b:(c?d:e)", "(?@1 $a@0 $b@2 (?@6 $c@5 $d@7 $e@9))")
	expectExpr(t, "a?b?c:d:e?f:g", "(?@1 $a@0 (?@3 $b@2 $c@4 $d@6) (?@9 $e@8 $f@10 $g@12))")
	expectExpr(t, "a?b?c?d:e:f:g", "(?@1 $a@0 (?@3 $b@2 (?@5 $c@4 $d@6 $e@8) $f@10) $g@12)")
	// Whatever stands between two is tighter.
	for _, l := range levels {
		for _, one := range l {
			n := len(one)
			expectExpr(t, "a"+one+"b?c:d", fmt.Sprintf("(?@%d (%s@1 $a@0 $b@%d) $c@%d $d@%d)", 2+n, one, 1+n, 3+n, 5+n))
			expectExpr(t, "a?b"+one+"c:d", fmt.Sprintf("(?@1 $a@0 (%s@3 $b@2 $c@%d) $d@%d)", one, 3+n, 5+n))
			expectExpr(t, "a?b:c"+one+"d", fmt.Sprintf("(?@1 $a@0 $b@2 (%s@5 $c@4 $d@%d))", one, 5+n))
			expectExpr(t, "(a?b:c)"+one+"d", fmt.Sprintf("(%s@7 (?@2 $a@1 $b@3 $c@5) $d@%d)", one, 7+n))
		}
	}
	expectNoExpr(t, "?", wrongToken, 0)
	expectNoExpr(t, "a?", wrongToken, 2)
	expectNoExpr(t, "a?:b", wrongToken, 2)
	expectNoExpr(t, "a?b", wrongToken, 3)
	expectNoExpr(t, "a?b:", wrongToken, 4)
	expectNoExpr(t, "a?b?c:d", wrongToken, 7)
	expectNoExpr(t, "a?b:c:d", wrongToken, 5)
	expectNoExpr(t, "a:b", wrongToken, 1)
	expectNoExpr(t, "(a?b):c", wrongToken, 4)
	expectNoExpr(t, "a?(b:c)", wrongToken, 4)
	expectNoExpr(t, "a?b,c", wrongToken, 3)
}
