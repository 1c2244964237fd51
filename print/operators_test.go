package print_test

import (
	"testing"

	"tripwire/api"
	"tripwire/parse"
	"tripwire/tree"
)

// kid is an expression with its level and its text.
type kid struct {
	level int
	n     api.Node
	text  string
}

// kids are of each level, by each operator.
func kids() []kid {
	a, b := reg("a"), reg("b")
	all := []kid{
		{1, cond(a, b, a), "a ? b : a"},
		{7, unary(1, a), "-a"}, {7, unary(2, a), "!a"},
		{8, num(7), "7"}, {8, lit(2, 0), "0q"}, {8, lit(5, 1), "true"}, {8, lit(6, 2), "sell"}, {8, a, "a"}, {8, field(5), "now"}, {8, has(3), "has last"},
		{8, call(3, a), "abs(a)"}, {8, call(4, a, b), "min(a, b)"}, {8, call(5, a, b), "max(a, b)"}, {8, conv(1, a), "int(a)"}, {8, conv(4, a), "time(a)"},
	}
	for o, level := range map[api.Oper]int{18: 2, 17: 3, 11: 4, 12: 4, 13: 4, 14: 4, 15: 4, 16: 4, 6: 5, 7: 5, 8: 6, 9: 6, 10: 6} {
		all = append(all, kid{level, binary(o, a, b), "a " + operTexts[o] + " b"})
	}
	return all
}

// parent is a node whose kids are yet to come: what stands ahead of each of them and behind the last one, and what their places ask for.
type parent struct {
	n     api.Node
	texts []string
	asks  []int
}

func parents() []parent {
	all := []parent{
		{cond(), []string{"", " ? ", " : ", ""}, []int{2, 1, 1}},
		{unary(1), []string{"-", ""}, []int{7}}, {unary(2), []string{"!", ""}, []int{7}},
		{call(3), []string{"abs(", ")"}, []int{1}}, {call(4), []string{"min(", ", ", ")"}, []int{1, 1}}, {call(5), []string{"max(", ", ", ")"}, []int{1, 1}},
		{conv(1), []string{"int(", ")"}, []int{1}}, {conv(2), []string{"qty(", ")"}, []int{1}}, {conv(3), []string{"price(", ")"}, []int{1}}, {conv(4), []string{"time(", ")"}, []int{1}},
	}
	for o, asks := range map[api.Oper][]int{
		18: {2, 3}, 17: {3, 4}, 11: {5, 5}, 12: {5, 5}, 13: {5, 5}, 14: {5, 5}, 15: {5, 5}, 16: {5, 5}, 6: {5, 6}, 7: {5, 6}, 8: {6, 7}, 9: {6, 7}, 10: {6, 7},
	} {
		all = append(all, parent{binary(o), []string{"", " " + operTexts[o] + " ", ""}, asks})
	}
	return all
}

// filled is the parent with these kids, and its text.
func (p parent) filled(kids ...kid) (api.Node, string) {
	n, s := p.n, ""
	for i, k := range kids {
		n.Kids = append(n.Kids, k.n)
		s += p.texts[i]
		if k.level < p.asks[i] {
			s += "(" + k.text + ")"
		} else {
			s += k.text
		}
	}
	return n, s + p.texts[len(kids)]
}

// Each operator with kids of each level at each place.
func TestEachKidAtEachPlace(t *testing.T) {
	count, bracketed := 0, 0
	plain := kid{8, reg("c"), "c"}
	for _, p := range parents() {
		for place := range p.asks {
			for _, k := range kids() {
				all := times(len(p.asks), plain)
				all[place] = k
				n, s := p.filled(all...)
				expectExpr(t, n, s)
				count++
				if k.level < p.asks[place] {
					bracketed++
					expectBracketsNeeded(t, n)
				}
			}
		}
	}
	if count < 1000 || bracketed < 260 {
		t.Errorf("only %d, and %d in brackets", count, bracketed)
	}
}

// Kids at both places of each operator, and at all three of a condition.
func TestKidsAtAllPlaces(t *testing.T) {
	for _, p := range parents() {
		for _, one := range kids() {
			for _, two := range kids() {
				switch len(p.asks) {
				case 2:
					n, s := p.filled(one, two)
					expectExpr(t, n, s)
				case 3:
					n, s := p.filled(one, two, one)
					expectExpr(t, n, s)
					n, s = p.filled(two, one, one)
					expectExpr(t, n, s)
				}
			}
		}
	}
}

// Each operator within each within each, at each of their places.
func TestThreeWithinOneAnother(t *testing.T) {
	count := 0
	c, plain := reg("c"), kid{8, reg("d"), "d"}
	for _, inner := range kids() {
		for _, p := range parents() {
			for place := range p.asks {
				all := times(len(p.asks), plain)
				all[place] = inner
				n, s := p.filled(all...)
				middle := kid{modelLevel(n), n, s}
				for _, q := range parents() {
					if q.n.Kind == api.NodeConv && q.n.Type != 1 || q.n.Kind == api.NodeCall && q.n.Oper != 4 {
						continue
					}
					for outer := range q.asks {
						all := times(len(q.asks), kid{8, c, "c"})
						all[outer] = middle
						n, s := q.filled(all...)
						if got, no := exprAndBack(n); got != s || no != api.OK {
							t.Errorf("%q, %d; want %q", got, no, s)
						}
						count++
					}
				}
			}
		}
	}
	if count < 30000 {
		t.Errorf("only %d", count)
	}
}

// exprAndBack is Expr, and looks whether the text comes back.
func exprAndBack(n api.Node) (string, api.Errno) {
	s, no := turned(n)
	if back, err := parse.Expr(s); err != nil || !tree.SameExpr(back, n) {
		return s + " does not come back", no
	}
	return s, no
}

// Rows of one level, from both ends.
func TestRows(t *testing.T) {
	a := reg("a")
	for o := api.OperAdd; o <= api.OperOr; o++ {
		mark := " " + operTexts[o] + " "
		left, right := binary(o, binary(o, a, a), a), binary(o, a, binary(o, a, a))
		both := binary(o, binary(o, a, a), binary(o, a, a))
		if operLevels[o] == 4 {
			expectExpr(t, left, "(a"+mark+"a)"+mark+"a")
			expectExpr(t, both, "(a"+mark+"a)"+mark+"(a"+mark+"a)")
		} else {
			expectExpr(t, left, "a"+mark+"a"+mark+"a")
			expectExpr(t, both, "a"+mark+"a"+mark+"(a"+mark+"a)")
			expectExpr(t, row(o, a, a, 500), "a"+repeat(mark+"a", 500))
		}
		expectExpr(t, right, "a"+mark+"(a"+mark+"a)")
		expectExpr(t, grown(a, 24, func(n api.Node) api.Node { return binary(o, a, n) }), repeat("a"+mark+"(", 23)+"a"+mark+"a"+repeat(")", 23))
	}
}

// Operators of one level, in each order.
func TestOperatorsOfOneLevel(t *testing.T) {
	a, b, c := reg("a"), reg("b"), reg("c")
	for _, level := range [][]api.Oper{{6, 7}, {8, 9, 10}, {11, 12, 13, 14, 15, 16}} {
		for _, o := range level {
			for _, p := range level {
				one, two := operTexts[o], operTexts[p]
				if operLevels[o] == 4 {
					expectExpr(t, binary(p, binary(o, a, b), c), "(a "+one+" b) "+two+" c")
				} else {
					expectExpr(t, binary(p, binary(o, a, b), c), "a "+one+" b "+two+" c")
				}
				expectExpr(t, binary(o, a, binary(p, b, c)), "a "+one+" (b "+two+" c)")
			}
		}
	}
}

// As deep as may be, by all that goes down.
func TestDeepest(t *testing.T) {
	a := reg("a")
	for _, x := range []struct {
		layer         func(n api.Node) api.Node
		ahead, behind string
	}{
		{func(n api.Node) api.Node { return unary(1, n) }, "-", ""},
		{func(n api.Node) api.Node { return unary(2, n) }, "!", ""},
		{func(n api.Node) api.Node { return call(3, n) }, "abs(", ")"},
		{func(n api.Node) api.Node { return call(4, n, a) }, "min(", ", a)"},
		{func(n api.Node) api.Node { return call(5, a, n) }, "max(a, ", ")"},
		{func(n api.Node) api.Node { return conv(3, n) }, "price(", ")"},
		{func(n api.Node) api.Node { return cond(a, n, a) }, "a ? ", " : a"},
		{func(n api.Node) api.Node { return cond(a, a, n) }, "a ? a : ", ""},
	} {
		expectExpr(t, grown(a, deepest, x.layer), repeat(x.ahead, deepest)+"a"+repeat(x.behind, deepest))
		expectNoExpr(t, grown(a, deepest+1, x.layer), tooDeep)
	}
	// Brackets go down by themselves, and within a minus by one more.
	sub := func(n api.Node) api.Node { return binary(7, a, n) }
	expectExpr(t, grown(sub(a), deepest, sub), repeat("a - (", deepest)+"a - a"+repeat(")", deepest))
	expectNoExpr(t, grown(sub(a), deepest+1, sub), tooDeep)
	minus := func(n api.Node) api.Node { return unary(1, binary(6, n, a)) }
	expectExpr(t, grown(a, deepest/2, minus), repeat("-(", deepest/2)+"a"+repeat(" + a)", deepest/2))
	expectNoExpr(t, grown(a, deepest/2+1, minus), tooDeep)
}
